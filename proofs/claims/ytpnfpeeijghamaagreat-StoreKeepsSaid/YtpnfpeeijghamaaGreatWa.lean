/- A ring of records on plain disks: records cut into sectors, what is opened of any sectors. Nothing of the program. A ring of records on plain disks: what a change does, and what whatever crash within it leaves. Nothing of the program. A ring of records on plain disks: all or nothing. Nothing of the program. -/
import Derived.Test.YtpnfpeeijghamaaGreatFr
import Derived.Test.YtpnfpeeijghamaaGreatSu
namespace Go.Proofs.YtpnfpeeijghamaaGreat
set_option maxRecDepth 100000

namespace Wl

def ring (d : Dk.D) : Nat := d.s.length - 2
def need (b : List UInt8) : Nat := if 60000 < b.length then 0 else (b.length + 70) / 64
/-- Bytes in pieces of 64. -/
def cut : List UInt8 → List (List UInt8)
  | [] => []
  | x :: t => (x :: t).take 64 :: cut ((x :: t).drop 64)
termination_by f => f.length
decreasing_by
  rw [List.length_drop, List.length_cons]
  omega
theorem cut_nil : cut [] = [] := by rw [cut]
theorem cut_cons {f : List UInt8} (h : f ≠ []) : cut f = f.take 64 :: cut (f.drop 64) := by
  cases f with
  | nil => exact absurd rfl h
  | cons x t => rw [cut]
theorem cut_len (f : List UInt8) : (cut f).length = (f.length + 63) / 64 := by
  induction hn : f.length using Nat.strongRecOn generalizing f with
  | _ n ih =>
    by_cases h : f = []
    · subst h; simp [cut_nil] at hn ⊢; omega
    · have hp := List.length_pos_iff.2 h
      rw [cut_cons h, List.length_cons, ih (f.drop 64).length (by rw [List.length_drop]; omega) _ rfl, List.length_drop]
      omega
theorem cut_small (f : List UInt8) : ∀ c ∈ cut f, c.length ≤ 64 ∧ c ≠ [] := by
  induction hn : f.length using Nat.strongRecOn generalizing f with
  | _ n ih =>
    intro c hc
    by_cases h : f = []
    · subst h; rw [cut_nil] at hc; cases hc
    · have hp := List.length_pos_iff.2 h
      rw [cut_cons h, List.mem_cons] at hc
      rcases hc with rfl | hc
      · refine ⟨by rw [List.length_take]; omega, fun e => ?_⟩
        have := congrArg List.length e
        rw [List.length_take] at this
        simp at this
        exact h this
      · exact ih (f.drop 64).length (by rw [List.length_drop]; omega) _ rfl c hc
/-- A record, and where it begins and ends. -/
structure Rec where
  b : List UInt8
  fr : Nat
  to : Nat
/-- A record's sectors. -/
def secs (b : List UInt8) : List (List UInt8) := (cut (Fr.frame b)).map Dk.sec
theorem secs_len {b : List UInt8} (h : b.length ≤ 60000) : (secs b).length = need b := by
  unfold secs need
  rw [List.length_map, cut_len, Fr.frame_len, if_neg (by omega)]
  congr 1
  omega
/-- The pieces, put together again, are the bytes and noughts behind them. -/
theorem cut_join (f : List UInt8) : ∃ k, k < 64 ∧ ((cut f).map Dk.sec).flatten = f ++ List.replicate k 0 := by
  induction hn : f.length using Nat.strongRecOn generalizing f with
  | _ n ih =>
    by_cases h : f = []
    · subst h; exact ⟨0, by decide, by rw [cut_nil]; rfl⟩
    · have hp := List.length_pos_iff.2 h
      rw [cut_cons h, List.map_cons, List.flatten_cons]
      by_cases hs : f.length ≤ 64
      · have e : f.drop 64 = [] := List.drop_eq_nil_of_le hs
        have e2 : f.take 64 = f := List.take_of_length_le hs
        rw [e, e2, cut_nil]
        refine ⟨64 - f.length, by omega, ?_⟩
        simp [Dk.sec]
      · obtain ⟨k, hk, he⟩ := ih (f.drop 64).length (by rw [List.length_drop]; omega) (f.drop 64) rfl
        refine ⟨k, hk, ?_⟩
        rw [he]
        have lt : (f.take 64).length = 64 := by rw [List.length_take]; omega
        have e : Dk.sec (f.take 64) = f.take 64 := by
          unfold Dk.sec
          rw [lt]
          simp
        rw [e, ← List.append_assoc, List.take_append_drop]
/-- All pieces but the last are whole. -/
theorem cut_pre (f : List UInt8) {j : Nat} (hj : j < (cut f).length) : (((cut f).map Dk.sec).take j).flatten = f.take (64 * j) ∧ 64 * j < f.length := by
  induction j generalizing f with
  | zero =>
    refine ⟨by simp, ?_⟩
    rcases Nat.eq_zero_or_pos f.length with h | h
    · rw [List.length_eq_zero_iff.1 h, cut_nil] at hj
      simp at hj
    · simpa using h
  | succ j ih =>
    have h : f ≠ [] := fun e => by rw [e, cut_nil] at hj; simp at hj
    rw [cut_cons h, List.length_cons] at hj
    obtain ⟨h1, h2⟩ := ih (f.drop 64) (by omega)
    rw [List.length_drop] at h2
    rw [cut_cons h, List.map_cons, List.take_succ_cons, List.flatten_cons, h1]
    have lt : (f.take 64).length = 64 := by rw [List.length_take]; omega
    have e : Dk.sec (f.take 64) = f.take 64 := by
      unfold Dk.sec
      rw [lt]
      simp
    rw [e]
    refine ⟨?_, by omega⟩
    rw [show 64 * (j + 1) = 64 + 64 * j by omega, List.take_add]
/-- A piece of a frame that isn't whole is no frame yet. -/
theorem unf_part {b : List UInt8} (hb : b.length ≤ 60000) {j : Nat} (hj : 64 * j < (Fr.frame b).length) : Fr.unf ((Fr.frame b).take (64 * j)) = none := by
  cases h : Fr.unf ((Fr.frame b).take (64 * j)) with
  | none => rfl
  | some d =>
    obtain ⟨h1, h2, h3⟩ := Fr.unf_some h
    exfalso
    have e : Fr.frame b = Fr.frame d ++ (((Fr.frame b).take (64 * j)).drop (7 + d.length) ++ (Fr.frame b).drop (64 * j)) := by
      rw [← List.append_assoc, ← h1, List.take_append_drop]
    have q : Fr.unf (Fr.frame b) = some d := by
      rw [e]
      exact Fr.unf_frame h2 _
    have q2 := Fr.unf_frame hb []
    rw [List.append_nil, q] at q2
    injection q2 with q2
    subst q2
    rw [List.length_take, Fr.frame_len] at h3
    rw [Fr.frame_len] at hj
    omega
/-- A whole one is. -/
theorem unf_whole {b : List UInt8} (hb : b.length ≤ 60000) : Fr.unf (secs b).flatten = some b := by
  obtain ⟨k, _, e⟩ := cut_join (Fr.frame b)
  unfold secs
  rw [e]
  exact Fr.unf_frame hb _
theorem unf_early {b : List UInt8} (hb : b.length ≤ 60000) {j : Nat} (hj : j < (secs b).length) : Fr.unf ((secs b).take j).flatten = none := by
  unfold secs at hj ⊢
  rw [List.length_map] at hj
  obtain ⟨h1, h2⟩ := cut_pre (Fr.frame b) hj
  rw [h1]
  exact unf_part hb h2

/-- Records from the sectors from place p on: k places, what has been read of the record that begins at fr, the records so far. -/
def walk (d : Dk.D) (r : Nat) : Nat → Nat → Nat → List UInt8 → List Rec → Int × List Rec
  | 0, _, _, all, acc => if all = [] then (0, acc) else (70, [])
  | k + 1, p, fr, all, acc =>
    if (Dk.read d ((2 + p % r : Nat) : Int)).2 = 0 then
      (match Fr.unf (all ++ (Dk.read d ((2 + p % r : Nat) : Int)).1) with
       | none => walk d r k (p + 1) fr (all ++ (Dk.read d ((2 + p % r : Nat) : Int)).1) acc
       | some x => walk d r k (p + 1) (p + 1) [] (acc ++ [⟨x, fr, p + 1⟩]))
    else ((Dk.read d ((2 + p % r : Nat) : Int)).2, [])
theorem walk_succ (d : Dk.D) (r k p fr : Nat) (all : List UInt8) (acc : List Rec) : walk d r (k + 1) p fr all acc =
    if (Dk.read d ((2 + p % r : Nat) : Int)).2 = 0 then
      (match Fr.unf (all ++ (Dk.read d ((2 + p % r : Nat) : Int)).1) with
       | none => walk d r k (p + 1) fr (all ++ (Dk.read d ((2 + p % r : Nat) : Int)).1) acc
       | some x => walk d r k (p + 1) (p + 1) [] (acc ++ [⟨x, fr, p + 1⟩]))
    else ((Dk.read d ((2 + p % r : Nat) : Int)).2, []) := rfl
/-- A wal that is opened: the generation, head, tail and records; else the error's number. -/
structure W where
  gen : Nat
  tail : Nat
  recs : List Rec
  over : Bool
def openIt (d : Dk.D) : Int × W :=
  match Su.load d with
  | (g, l, e) =>
    if e = 0 then
      (match l with
       | [h, t] => if h ≤ t ∧ t - h ≤ ring d then ((walk d (ring d) (t - h) h h [] []).1, ⟨g, t, (walk d (ring d) (t - h) h h [] []).2, false⟩) else (70, ⟨0, 0, [], false⟩)
       | _ => (70, ⟨0, 0, [], false⟩))
    else (e, ⟨0, 0, [], false⟩)

/-- From place p on the ring's sectors are these. -/
def At (s : List (List UInt8)) (r p : Nat) (cs : List (List UInt8)) : Prop := ∀ j c, cs[j]? = some c → s.getD (2 + (p + j) % r) [] = c
theorem At.tail {s : List (List UInt8)} {r p : Nat} {c : List UInt8} {cs : List (List UInt8)} (h : At s r p (c :: cs)) : At s r (p + 1) cs := fun j x hx => by
  have := h (j + 1) x (by simpa using hx)
  rwa [show p + (j + 1) = p + 1 + j by omega] at this
theorem At.head {s : List (List UInt8)} {r p : Nat} {c : List UInt8} {cs : List (List UInt8)} (h : At s r p (c :: cs)) : s.getD (2 + p % r) [] = c := h 0 c rfl
theorem At.right {s : List (List UInt8)} {r p : Nat} {xs ys : List (List UInt8)} (h : At s r p (xs ++ ys)) : At s r (p + xs.length) ys := fun j x hx => by
  have := h (xs.length + j) x (by rw [List.getElem?_append_right (by omega)]; simpa using hx)
  rwa [show p + (xs.length + j) = p + xs.length + j by omega] at this
theorem At.left {s : List (List UInt8)} {r p : Nat} {xs ys : List (List UInt8)} (h : At s r p (xs ++ ys)) : At s r p xs := fun j x hx => by
  have hj : j < xs.length := by
    rcases Nat.lt_or_ge j xs.length with q | q
    · exact q
    · rw [List.getElem?_eq_none q] at hx; cases hx
  exact h j x (by rw [List.getElem?_append_left hj]; exact hx)

/-- All sectors can be read, and nothing is cached. -/
structure Clear (d : Dk.D) : Prop extends Su.Calm d where
  bad : ∀ i, d.bad.getD i false = false
theorem Clear.read {d : Dk.D} (h : Clear d) {i : Nat} (hi : i < d.s.length) : Dk.read d (i : Int) = (d.s.getD i [], 0) := Su.read_calm h.toCalm hi (h.bad i)
theorem place {d : Dk.D} (h2 : 3 ≤ d.s.length) (p : Nat) : 2 + p % ring d < d.s.length := by
  have : p % ring d < ring d := Nat.mod_lt _ (by unfold ring; omega)
  unfold ring at *
  omega

/-- The rest of one record, read to its end. -/
theorem walk_rest {d : Dk.D} (h : Clear d) (h2 : 3 ≤ d.s.length) {b : List UInt8} (hb : b.length ≤ 60000) (k fr : Nat) (acc : List Rec) :
    ∀ (n j p : Nat), j + n = (secs b).length → 0 < n → At d.s (ring d) p ((secs b).drop j) →
      walk d (ring d) (n + k) p fr ((secs b).take j).flatten acc = walk d (ring d) k (p + n) (p + n) [] (acc ++ [⟨b, fr, p + n⟩]) := by
  intro n
  induction n with
  | zero => intro j p _ h0; omega
  | succ n ih =>
    intro j p hj _ ha
    have hlt : j < (secs b).length := by omega
    have hd : (secs b).drop j = (secs b)[j] :: (secs b).drop (j + 1) := List.drop_eq_getElem_cons hlt
    rw [hd] at ha
    have hr := h.read (place h2 p)
    rw [ha.head] at hr
    have ht : ((secs b).take j).flatten ++ (secs b)[j] = ((secs b).take (j + 1)).flatten := by
      rw [List.take_succ_eq_append_getElem hlt, List.flatten_append]
      simp
    show walk d (ring d) (n + 1 + k) p fr _ acc = _
    rw [show n + 1 + k = (n + k) + 1 by omega]
    rw [walk_succ, hr, if_pos rfl]
    simp only
    rw [ht]
    by_cases hl : j + 1 = (secs b).length
    · have n0 : n = 0 := by omega
      subst n0
      rw [show (secs b).take (j + 1) = secs b by rw [hl, List.take_length], unf_whole hb]
      simp
    · rw [unf_early hb (by omega)]
      simp only
      rw [ih (j + 1) (p + 1) (by omega) (by omega) ha.tail]
      rw [show p + 1 + n = p + (n + 1) by omega]
/-- Records one behind the other. -/
def recsAt (p : Nat) : List (List UInt8) → List Rec
  | [] => []
  | b :: l => ⟨b, p, p + need b⟩ :: recsAt (p + need b) l
def needs (l : List (List UInt8)) : Nat := (l.map need).sum
theorem need_pos {b : List UInt8} (h : b.length ≤ 60000) : 0 < need b := by unfold need; rw [if_neg (by omega)]; omega
theorem recsAt_map (p : Nat) (l : List (List UInt8)) : (recsAt p l).map (·.b) = l := by
  induction l generalizing p with
  | nil => rfl
  | cons b l ih => simp [recsAt, ih]
theorem secs_all_len {l : List (List UInt8)} (h : ∀ b ∈ l, b.length ≤ 60000) : (l.flatMap secs).length = needs l := by
  induction l with
  | nil => rfl
  | cons b l ih =>
    rw [List.flatMap_cons, List.length_append, secs_len (h b (by simp)), ih (fun x hx => h x (by simp [hx]))]
    simp [needs]
/-- Records that lie there are read. -/
theorem walk_all {d : Dk.D} (h : Clear d) (h2 : 3 ≤ d.s.length) :
    ∀ (l : List (List UInt8)), (∀ b ∈ l, b.length ≤ 60000) → ∀ (p : Nat) (acc : List Rec), At d.s (ring d) p (l.flatMap secs) →
      walk d (ring d) (needs l) p p [] acc = (0, acc ++ recsAt p l) := by
  intro l
  induction l with
  | nil => intro _ p acc _; simp [needs, walk, recsAt]
  | cons b l ih =>
    intro hb p acc ha
    have hb0 := hb b (by simp)
    rw [List.flatMap_cons] at ha
    have np := need_pos hb0
    have e := walk_rest h h2 hb0 (needs l) p acc (need b) 0 p (by rw [secs_len hb0]; omega) np (by simpa using ha.left)
    rw [show needs (b :: l) = need b + needs l by simp [needs]]
    rw [List.take_zero, List.flatten_nil] at e
    have hr := ha.right
    rw [secs_len hb0] at hr
    rw [e, ih (fun x hx => hb x (by simp [hx])) (p + need b) _ hr]
    simp [recsAt]
/-- What the wal's numbers are, and what lies on the ring: the sectors tell generation g, and these records from head h on. -/
structure Good (d : Dk.D) (g h : Nat) (l : List (List UInt8)) : Prop where
  two : Su.Two g [h, h + needs l] d.s
  len : 3 ≤ d.s.length
  small : ∀ b ∈ l, b.length ≤ 60000
  fits : needs l ≤ ring d
  at_ : At d.s (ring d) h (l.flatMap secs)
theorem Good.opens {d : Dk.D} {g h : Nat} {l : List (List UInt8)} (c : Clear d) (t : Good d g h l) : openIt d = (0, ⟨g, h + needs l, recsAt h l, false⟩) := by
  unfold openIt
  rw [Su.load_two' c.toCalm t.two]
  have e : h + needs l - h = needs l := by omega
  have wa := walk_all c t.len l t.small h [] t.at_
  simp only [e, wa]
  rw [if_pos trivial, if_pos ⟨by omega, t.fits⟩]
  simp
end Wl

namespace Su

/-- How a save ends: nothing flushed, nothing written, the last flush undone, well. -/
theorem save_cases {d : Dk.D} {g : Nat} {k : List Nat} (hd : d.dead = false) (hk : k.length ≤ 4) (h2 : 2 ≤ d.s.length) :
    (save d g k = (50, { d with dead := true })) ∨
    (save d g k = (50, { d with s := Dk.keepAll d.s d.cache, cache := [], left := 0, dead := true })) ∨
    (save d g k = (50, { d with s := Dk.keepAll d.s d.cache, cache := [(g % 2, Dk.sec (slot g k))], left := 0, dead := true })) ∨
    (save d g k = (0, { d with s := (Dk.keepAll d.s d.cache).set (g % 2) (Dk.sec (slot g k)), cache := [], left := down (down (down d.left)) })) := by
  have sf := slot_fits (g := g) (l := k) hk
  have hi : g % 2 < d.s.length := by omega
  have dec : ¬ 4 < k.length := by omega
  have len : (Dk.keepAll d.s d.cache).length = d.s.length := Dk.keepAll_len _ _
  by_cases l0 : d.left = 0
  · refine Or.inl ?_
    unfold save
    rw [if_neg dec, flush_dies l0, if_neg (show ¬ (50 : Int) = 0 by decide)]
  have f1 := flush_alive hd l0
  by_cases l1 : down d.left = 0
  · have f2 := write_dies (d := { d with s := Dk.keepAll d.s d.cache, cache := [], left := down d.left }) (i := g % 2) (b := slot g k) hd l1 (by rw [len]; exact hi) (by omega)
    refine Or.inr (Or.inl ?_)
    unfold save
    rw [if_neg dec, f1, if_pos rfl]
    simp only
    rw [f2, if_neg (show ¬ (50 : Int) = 0 by decide), l1]
  have f2 := write_alive (d := { d with s := Dk.keepAll d.s d.cache, cache := [], left := down d.left }) (i := g % 2) (b := slot g k) hd l1 (by rw [len]; exact hi) (by omega)
  by_cases l2 : down (down d.left) = 0
  · refine Or.inr (Or.inr (Or.inl ?_))
    unfold save
    rw [if_neg dec, f1, if_pos rfl]
    simp only
    rw [f2, if_pos rfl]
    simp only
    rw [flush_dies l2, l2]
    rfl
  · have f3 := flush_alive (d := { d with s := Dk.keepAll d.s d.cache, cache := [] ++ [(g % 2, Dk.sec (slot g k))], left := down (down d.left) }) hd l2
    refine Or.inr (Or.inr (Or.inr ?_))
    unfold save
    rw [if_neg dec, f1, if_pos rfl]
    simp only
    rw [f2, if_pos rfl]
    simp only
    rw [f3]
    rfl
theorem down_low {n : Int} (h : -1 ≤ n) : -1 ≤ down n := by unfold down; split <;> omega
end Su
namespace Wl

theorem keepSome_at (s : List (List UInt8)) (c : List (Nat × List UInt8)) (ks : List Bool) (i : Nat) (h : ∀ w ∈ c, w.1 ≠ i) : (Dk.keepSome s c ks).getD i [] = s.getD i [] := by
  induction c generalizing s ks with
  | nil => cases ks <;> rfl
  | cons w c ih =>
    cases ks with
    | nil => rfl
    | cons k ks =>
      show (Dk.keepSome (if k = true then s.set w.1 w.2 else s) c ks).getD i [] = _
      rw [ih _ _ (fun x hx => h x (by simp [hx]))]
      split
      · exact Su.getD_set_other (h w (by simp))
      · rfl
theorem keepAll_at (s : List (List UInt8)) (c : List (Nat × List UInt8)) (i : Nat) (h : ∀ w ∈ c, w.1 ≠ i) : (Dk.keepAll s c).getD i [] = s.getD i [] := by
  induction c generalizing s with
  | nil => rfl
  | cons w c ih =>
    show (Dk.keepAll (s.set w.1 w.2) c).getD i [] = _
    rw [ih _ (fun x hx => h x (by simp [hx]))]
    exact Su.getD_set_other (h w (by simp))
/-- The writes of pieces, from place p on. -/
def wl (r : Nat) : Nat → List (List UInt8) → List (Nat × List UInt8)
  | _, [] => []
  | p, c :: cs => (2 + p % r, Dk.sec c) :: wl r (p + 1) cs
theorem wl_len (r p : Nat) (cs : List (List UInt8)) : (wl r p cs).length = cs.length := by
  induction cs generalizing p with
  | nil => rfl
  | cons c cs ih => simp [wl, ih]
theorem wl_mem {r p : Nat} {cs : List (List UInt8)} {w : Nat × List UInt8} (h : w ∈ wl r p cs) : ∃ q, p ≤ q ∧ q < p + cs.length ∧ w.1 = 2 + q % r ∧ ∃ c ∈ cs, w.2 = Dk.sec c := by
  induction cs generalizing p with
  | nil => cases h
  | cons c cs ih =>
    simp only [wl, List.mem_cons] at h
    rcases h with rfl | h
    · exact ⟨p, Nat.le_refl _, by simp, rfl, c, by simp, rfl⟩
    · obtain ⟨q, h1, h2, h3, x, hx, h4⟩ := ih h
      exact ⟨q, by omega, by simp; omega, h3, x, by simp [hx], h4⟩
theorem mod_ne {r p q : Nat} (h1 : p < q) (h2 : q < p + r) : p % r ≠ q % r := by
  intro e
  have hr : 0 < r := by omega
  have a := Nat.div_add_mod p r
  have b := Nat.div_add_mod q r
  rw [e] at a
  have le : p / r ≤ q / r := Nat.div_le_div_right (by omega)
  rcases Nat.lt_or_ge (p / r) (q / r) with l | l
  · have : r * (p / r) + r ≤ r * (q / r) := by
      have := Nat.mul_le_mul_left r l
      rw [Nat.mul_succ] at this
      exact this
    omega
  · have : p / r = q / r := by omega
    rw [this] at a
    omega
/-- What was written lies there. -/
theorem wl_at {r : Nat} (cs : List (List UInt8)) : ∀ (s : List (List UInt8)) (p : Nat), r = s.length - 2 → 3 ≤ s.length → cs.length ≤ r → At (Dk.keepAll s (wl r p cs)) r p (cs.map Dk.sec) := by
  induction cs with
  | nil => intro s p _ _ _ j c hc; simp at hc
  | cons c cs ih =>
    intro s p hr h3 hl j x hx
    simp only [List.length_cons] at hl
    have hp : 2 + p % r < s.length := by
      have : p % r < r := Nat.mod_lt _ (by omega)
      omega
    show (Dk.keepAll (s.set (2 + p % r) (Dk.sec c)) (wl r (p + 1) cs)).getD _ [] = x
    cases j with
    | zero =>
      simp at hx
      subst hx
      rw [keepAll_at _ _ _ (fun w hw => ?_), Nat.add_zero, Su.getD_set_self hp]
      obtain ⟨q, h1, h2, h4, _⟩ := wl_mem hw
      rw [h4, Nat.add_zero]
      have := mod_ne (r := r) (p := p) (q := q) (by omega) (by omega)
      omega
    | succ j =>
      have := ih (s.set (2 + p % r) (Dk.sec c)) (p + 1) (by simpa using hr) (by simpa using h3) (by omega) j x (by simpa using hx)
      rwa [show p + 1 + j = p + (j + 1) by omega] at this
/-- Pieces are written from place p on, until one can't be. -/
def wrs (r : Nat) : Nat → List (List UInt8) → Dk.D → Int × Dk.D
  | _, [], d => (0, d)
  | p, c :: cs, d => if (Dk.write d ((2 + p % r : Nat) : Int) c).1 = 0 then wrs r (p + 1) cs (Dk.write d ((2 + p % r : Nat) : Int) c).2 else Dk.write d ((2 + p % r : Nat) : Int) c
/-- How that ends. -/
theorem wrs_shape {r : Nat} (cs : List (List UInt8)) : ∀ (p : Nat) (d : Dk.D), r = ring d → 3 ≤ d.s.length → d.dead = false → -1 ≤ d.left → (∀ c ∈ cs, c.length ≤ 64) →
    ∃ (k : Nat) (lf : Int) (dd : Bool) (er : Int), k ≤ cs.length ∧ wrs r p cs d = (er, { d with cache := d.cache ++ (wl r p cs).take k, left := lf, dead := dd }) ∧ -1 ≤ lf ∧ ((er = 0 ∧ k = cs.length ∧ dd = false) ∨ (er = 50 ∧ dd = true)) := by
  induction cs with
  | nil => intro p d _ _ hd hl _; exact ⟨0, d.left, false, 0, Nat.le_refl _, by obtain ⟨s, c, b, lf, dd⟩ := d; cases hd; simp [wrs, wl], hl, Or.inl ⟨rfl, rfl, rfl⟩⟩
  | cons c cs ih =>
    intro p d hr h3 hd hl hc
    have hi : 2 + p % r < d.s.length := by rw [hr]; exact place h3 p
    have hc0 := hc c (by simp)
    by_cases l0 : d.left = 0
    · refine ⟨0, d.left, true, 50, Nat.zero_le _, ?_, hl, Or.inr ⟨rfl, rfl⟩⟩
      show (if (Dk.write d ((2 + p % r : Nat) : Int) c).1 = 0 then _ else _) = _
      rw [Su.write_dies hd l0 hi hc0, if_neg (show ¬ (50 : Int) = 0 by decide)]
      simp
    · have wa := Su.write_alive hd l0 hi hc0
      obtain ⟨k, lf, dd, er, hk, he, hlf, hend⟩ := ih (p + 1) { d with cache := d.cache ++ [(2 + p % r, Dk.sec c)], left := Su.down d.left } hr h3 hd (Su.down_low hl) (fun x hx => hc x (by simp [hx]))
      refine ⟨k + 1, lf, dd, er, by simp; omega, ?_, hlf, ?_⟩
      · show (if (Dk.write d ((2 + p % r : Nat) : Int) c).1 = 0 then wrs r (p + 1) cs (Dk.write d ((2 + p % r : Nat) : Int) c).2 else _) = _
        rw [wa, if_pos rfl]
        simp only
        rw [he]
        simp [wl]
      · rcases hend with ⟨h1, h2, h4⟩ | h
        · exact Or.inl ⟨h1, by simp; omega, h4⟩
        · exact Or.inr h

/-- Where only free sectors have changed, all is told as before. -/
theorem Good.frame {d e : Dk.D} {g h : Nat} {l : List (List UInt8)} (t : Good d g h l) (hl : e.s.length = d.s.length) (hs : ∀ i, i < 2 → e.s.getD i [] = d.s.getD i []) (hp : ∀ q, h ≤ q → q < h + needs l → e.s.getD (2 + q % ring d) [] = d.s.getD (2 + q % ring d) []) : Good e g h l := by
  have rr : ring e = ring d := by unfold ring; rw [hl]
  refine ⟨⟨t.two.good, by rw [hl]; exact t.two.two, ?_, ?_⟩, by rw [hl]; exact t.len, t.small, by rw [rr]; exact t.fits, ?_⟩
  · rw [hs _ (Nat.mod_lt _ (by decide))]; exact t.two.cur
  · rw [hs _ (Nat.mod_lt _ (by decide))]; exact t.two.oth
  · intro j c hc
    have hj : j < needs l := by
      rw [← secs_all_len t.small]
      rcases Nat.lt_or_ge j (l.flatMap secs).length with q | q
      · exact q
      · rw [List.getElem?_eq_none q] at hc; cases hc
    rw [rr, hp _ (by omega) (by omega)]
    exact t.at_ j c hc
/-- Writes to places behind the records, as many as are free. -/
def FreeW (d : Dk.D) (h n : Nat) (c : List (Nat × List UInt8)) : Prop := ∀ w ∈ c, ∃ q, h + n ≤ q ∧ q < h + ring d ∧ w.1 = 2 + q % ring d
theorem FreeW.far {d : Dk.D} {h n : Nat} {c : List (Nat × List UInt8)} (f : FreeW d h n c) {q : Nat} (h1 : h ≤ q) (h2 : q < h + n) : ∀ w ∈ c, w.1 ≠ 2 + q % ring d := by
  intro w hw e
  obtain ⟨p, p1, p2, p3⟩ := f w hw
  have := mod_ne (r := ring d) (p := q) (q := p) (by omega) (by omega)
  omega
theorem FreeW.low {d : Dk.D} {h n : Nat} {c : List (Nat × List UInt8)} (f : FreeW d h n c) {i : Nat} (hi : i < 2) : ∀ w ∈ c, w.1 ≠ i := by
  intro w hw e
  obtain ⟨p, _, _, p3⟩ := f w hw
  omega
theorem Good.keepSome {d e : Dk.D} {g h : Nat} {l : List (List UInt8)} {c : List (Nat × List UInt8)} {ks : List Bool} (t : Good d g h l) (f : FreeW d h (needs l) c) (he : e.s = Dk.keepSome d.s c ks) : Good e g h l :=
  t.frame (by rw [he, Dk.keepSome_len]) (fun i hi => by rw [he, keepSome_at _ _ _ _ (f.low hi)]) (fun q h1 h2 => by rw [he, keepSome_at _ _ _ _ (f.far h1 h2)])
theorem Good.keepAll {d e : Dk.D} {g h : Nat} {l : List (List UInt8)} {c : List (Nat × List UInt8)} (t : Good d g h l) (f : FreeW d h (needs l) c) (he : e.s = Dk.keepAll d.s c) : Good e g h l :=
  t.frame (by rw [he, Dk.keepAll_len]) (fun i hi => by rw [he, keepAll_at _ _ _ (f.low hi)]) (fun q h1 h2 => by rw [he, keepAll_at _ _ _ (f.far h1 h2)])
end Wl

namespace Wl

def headOf (recs : List Rec) (tail : Nat) : Nat := match recs with | [] => tail | r :: _ => r.fr
/-- The super is turned: the error's number, the wal, the disk. -/
def turn (w : W) (d : Dk.D) (recs : List Rec) (tail : Nat) : Int × W × Dk.D :=
  if (Su.save d (w.gen + 1) [headOf recs tail, tail]).1 = 0 then (0, ⟨w.gen + 1, tail, recs, false⟩, (Su.save d (w.gen + 1) [headOf recs tail, tail]).2)
  else (50, { w with over := true }, (Su.save d (w.gen + 1) [headOf recs tail, tail]).2)
def chunks (l : List (List UInt8)) : List (List UInt8) := l.flatMap fun b => cut (Fr.frame b)
def free (d : Dk.D) (w : W) : Nat := ring d - (w.tail - headOf w.recs w.tail)
/-- Records are added, or put in the place of all. -/
def put (w : W) (d : Dk.D) (l : List (List UInt8)) (swap : Bool) : Int × W × Dk.D :=
  if w.over = true then (50, w, d)
  else if l.any (fun b => decide (60000 < b.length)) = true then (2, w, d)
  else if free d w < needs l then (51, w, d)
  else if (wrs (ring d) w.tail (chunks l) d).1 = 0 then turn w (wrs (ring d) w.tail (chunks l) d).2 ((if swap = true then [] else w.recs) ++ recsAt w.tail l) (w.tail + needs l)
  else (50, { w with over := true }, (wrs (ring d) w.tail (chunks l) d).2)
def drop (w : W) (d : Dk.D) (n : Int) : Int × W × Dk.D :=
  if w.over = true then (50, w, d)
  else if n < 0 ∨ (w.recs.length : Int) < n then (1, w, d)
  else turn w d (w.recs.drop n.toNat) w.tail
/-- The wal of generation g with these records from head h on. -/
def wal (g h : Nat) (l : List (List UInt8)) : W := ⟨g, h + needs l, recsAt h l, false⟩

theorem needs_app (l m : List (List UInt8)) : needs (l ++ m) = needs l + needs m := by simp [needs]
theorem recsAt_app (p : Nat) (l m : List (List UInt8)) : recsAt p (l ++ m) = recsAt p l ++ recsAt (p + needs l) m := by
  induction l generalizing p with
  | nil => simp [recsAt, needs]
  | cons b l ih =>
    simp only [List.cons_append, recsAt, ih]
    rw [show p + needs (b :: l) = p + need b + needs l by simp [needs]; omega]
theorem headOf_at (h : Nat) (l : List (List UInt8)) : headOf (recsAt h l) (h + needs l) = h := by
  cases l with
  | nil => simp [recsAt, headOf, needs]
  | cons b l => rfl
theorem recsAt_drop (h : Nat) (l : List (List UInt8)) (n : Nat) : (recsAt h l).drop n = recsAt (h + needs (l.take n)) (l.drop n) := by
  induction l generalizing h n with
  | nil => simp [recsAt]
  | cons b l ih =>
    cases n with
    | zero => simp [needs]
    | succ n =>
      simp only [recsAt, List.drop_succ_cons, List.take_succ_cons]
      rw [ih, show h + needs (b :: l.take n) = h + need b + needs (l.take n) by simp [needs]; omega]
theorem chunks_secs (l : List (List UInt8)) : (chunks l).map Dk.sec = l.flatMap secs := by
  induction l with
  | nil => rfl
  | cons b l ih => simp only [chunks, List.flatMap_cons, List.map_append] at ih ⊢; rw [ih]; rfl
theorem chunks_small (l : List (List UInt8)) : ∀ c ∈ chunks l, c.length ≤ 64 := by
  intro c hc
  simp only [chunks, List.mem_flatMap] at hc
  obtain ⟨b, _, hb⟩ := hc
  exact (cut_small _ c hb).1
theorem chunks_len {l : List (List UInt8)} (h : ∀ b ∈ l, b.length ≤ 60000) : (chunks l).length = needs l := by
  rw [← secs_all_len h, ← chunks_secs, List.length_map]

/-- A disk on which nothing is cached, alive, armed or not. -/
structure Idle (d : Dk.D) : Prop where
  ok : d.ok
  dead : d.dead = false
  cache : d.cache = []
  bad : ∀ i, d.bad.getD i false = false
theorem Idle.clear {d : Dk.D} (h : Idle d) : Clear d := ⟨⟨h.ok, h.dead, h.cache, h.bad 0, h.bad 1⟩, h.bad⟩
theorem crash_idle {d : Dk.D} (ho : d.ok) (hb : ∀ i, d.bad.getD i false = false) (ks : List Bool) : Idle (Dk.crash d ks) := ⟨Dk.crash_ok ho ks, rfl, rfl, hb⟩
theorem At.set {s : List (List UInt8)} {r p : Nat} {cs : List (List UInt8)} {i : Nat} {b : List UInt8} (h : At s r p cs) (hi : i < 2) : At (s.set i b) r p cs := fun j c hc => by
  rw [Su.getD_set_other (by omega)]
  exact h j c hc

/-- The super turned over sectors that hold the new records already: how that ends, and what a crash leaves. -/
theorem turn_ends {d : Dk.D} {g h : Nat} {l : List (List UInt8)} {h' : Nat} {l' : List (List UInt8)} {c : List (Nat × List UInt8)} (ho : d.ok) (hd : d.dead = false) (hl : -1 ≤ d.left) (hbad : ∀ i, d.bad.getD i false = false) (hc : d.cache = c)
    (t : Good d g h l) (f : FreeW d h (needs l) c) (hg : g + 1 < 18446744073709551616) (hn : h' + needs l' < 18446744073709551616)
    (small : ∀ b ∈ l', b.length ≤ 60000) (fits : needs l' ≤ ring d) (at_ : At (Dk.keepAll d.s c) (ring d) h' (l'.flatMap secs)) :
    ∃ e w d', turn (wal g h l) d (recsAt h' l') (h' + needs l') = (e, w, d') ∧ d'.ok ∧ d'.s.length = d.s.length ∧ (∀ i, d'.bad.getD i false = false) ∧ -1 ≤ d'.left ∧ d'.cache.length ≤ d.cache.length + 1 ∧
      ((e = 0 ∧ w = wal (g + 1) h' l' ∧ Idle d' ∧ Good d' (g + 1) h' l') ∨ (e = 50 ∧ w = { wal g h l with over := true } ∧ d'.dead = true)) ∧
      ∀ ks, (Good (Dk.crash d' ks) g h l ∧ e ≠ 0) ∨ Good (Dk.crash d' ks) (g + 1) h' l' := by
  have gk : Su.Good (g + 1) [h', h' + needs l'] := ⟨hg, by intro n hn2; simp at hn2; rcases hn2 with rfl | rfl <;> omega, by simp⟩
  have h2 := t.two.two
  have all : ∀ e : Dk.D, e.s = Dk.keepAll d.s c → Good e g h l := fun e he => t.keepAll f he
  have len : (Dk.keepAll d.s c).length = d.s.length := Dk.keepAll_len _ _
  have new : ∀ e : Dk.D, e.s = (Dk.keepAll d.s c).set ((g + 1) % 2) (Dk.sec (Su.slot (g + 1) [h', h' + needs l'])) → Good e (g + 1) h' l' := fun e he => by
    have tw := (all { d with s := Dk.keepAll d.s c } rfl).two.next gk
    have le : e.s.length = d.s.length := by rw [he, List.length_set, len]
    have re : ring e = ring d := by unfold ring; rw [le]
    refine ⟨by rw [he]; exact tw, by rw [le]; exact t.len, small, by rw [re]; exact fits, ?_⟩
    rw [re, he]
    exact at_.set (Nat.mod_lt _ (by decide))
  have sl := Su.slot_fits (g := g + 1) (l := [h', h' + needs l']) gk.few
  have secd := Dk.sec_len (b := Su.slot (g + 1) [h', h' + needs l']) (by omega)
  have kok : ∀ x ∈ Dk.keepAll d.s c, x.length = 64 := Dk.keepAll_secs ho.secs (fun w hw => by rw [← hc] at hw; exact (ho.at_ w hw).2)
  have hm : (g + 1) % 2 < d.s.length := by omega
  have e0 : turn (wal g h l) d (recsAt h' l') (h' + needs l') = if (Su.save d (g + 1) [h', h' + needs l']).1 = 0 then (0, wal (g + 1) h' l', (Su.save d (g + 1) [h', h' + needs l']).2) else (50, { wal g h l with over := true }, (Su.save d (g + 1) [h', h' + needs l']).2) := by
    unfold turn
    rw [headOf_at]
    rfl
  rw [e0]
  rcases Su.save_cases (g := g + 1) hd gk.few h2 with q | q | q | q
  · rw [q, if_neg (show ¬ (50 : Int) = 0 by decide)]
    refine ⟨_, _, _, rfl, ⟨ho.bads, ho.few, ho.secs, ho.at_, ho.left⟩, rfl, hbad, hl, by simp, Or.inr ⟨rfl, rfl, rfl⟩, fun ks => Or.inl ⟨?_, by decide⟩⟩
    exact t.keepSome f (show _ = _ by rw [← hc]; rfl)
  · rw [q, if_neg (show ¬ (50 : Int) = 0 by decide), hc]
    refine ⟨_, _, _, rfl, ⟨by show d.bad.length = (Dk.keepAll d.s c).length; rw [len]; exact ho.bads, by show (Dk.keepAll d.s c).length ≤ 4096; rw [len]; exact ho.few, kok, by simp, by show (-1 : Int) ≤ 0; omega⟩, len, hbad, by show (-1 : Int) ≤ 0; omega, by simp, Or.inr ⟨rfl, rfl, rfl⟩, fun ks => Or.inl ⟨all _ ?_, by decide⟩⟩
    show Dk.keepSome (Dk.keepAll d.s c) [] ks = _
    cases ks <;> rfl
  · rw [q, if_neg (show ¬ (50 : Int) = 0 by decide), hc]
    refine ⟨_, _, _, rfl, ⟨by show d.bad.length = (Dk.keepAll d.s c).length; rw [len]; exact ho.bads, by show (Dk.keepAll d.s c).length ≤ 4096; rw [len]; exact ho.few, kok, by intro x hx; simp at hx; subst hx; exact ⟨by show (g + 1) % 2 < (Dk.keepAll d.s c).length; rw [len]; exact hm, secd⟩, by show (-1 : Int) ≤ 0; omega⟩, len, hbad, by show (-1 : Int) ≤ 0; omega, by simp, Or.inr ⟨rfl, rfl, rfl⟩, fun ks => ?_⟩
    cases ks with
    | nil => exact Or.inl ⟨all _ rfl, by decide⟩
    | cons b ks =>
      cases b
      · refine Or.inl ⟨all _ ?_, by decide⟩
        show Dk.keepSome (Dk.keepAll d.s c) [] ks = _
        cases ks <;> rfl
      · refine Or.inr (new _ ?_)
        show Dk.keepSome ((Dk.keepAll d.s c).set ((g + 1) % 2) _) [] ks = _
        cases ks <;> rfl
  · rw [q, if_pos rfl, hc]
    have ok' : ({ d with s := (Dk.keepAll d.s c).set ((g + 1) % 2) (Dk.sec (Su.slot (g + 1) [h', h' + needs l'])), cache := [], left := Su.down (Su.down (Su.down d.left)) } : Dk.D).ok :=
      ⟨by show d.bad.length = ((Dk.keepAll d.s c).set _ _).length; rw [List.length_set, len]; exact ho.bads, by show ((Dk.keepAll d.s c).set _ _).length ≤ 4096; rw [List.length_set, len]; exact ho.few, Dk.set_secs kok (w := ((g + 1) % 2, _)) secd, by simp, Su.down_low (Su.down_low (Su.down_low hl))⟩
    refine ⟨_, _, _, rfl, ok', by show ((Dk.keepAll d.s c).set _ _).length = _; rw [List.length_set, len], hbad, Su.down_low (Su.down_low (Su.down_low hl)), by simp, Or.inl ⟨rfl, rfl, ⟨ok', hd, rfl, hbad⟩, new _ rfl⟩, fun ks => Or.inr (new _ ?_)⟩
    show Dk.keepSome ((Dk.keepAll d.s c).set ((g + 1) % 2) _) [] ks = _
    cases ks <;> rfl
/-- How a change ends, and what a crash behind it leaves: the records of before (not where it went well), or those of behind it. -/
def Ends (g h : Nat) (l : List (List UInt8)) (h' : Nat) (l' : List (List UInt8)) (d : Dk.D) (n : Nat) (e : Int) (w : W) (d' : Dk.D) : Prop :=
  d'.ok ∧ d'.s.length = d.s.length ∧ (∀ i, d'.bad.getD i false = false) ∧ -1 ≤ d'.left ∧ d'.cache.length ≤ n ∧
    ((e = 0 ∧ w = wal (g + 1) h' l' ∧ Idle d' ∧ Good d' (g + 1) h' l') ∨ ((e = 1 ∨ e = 2 ∨ e = 51) ∧ w = wal g h l ∧ d' = d) ∨ (e = 50 ∧ w = { wal g h l with over := true } ∧ d'.dead = true)) ∧
    ∀ ks, (Good (Dk.crash d' ks) g h l ∧ e ≠ 0) ∨ Good (Dk.crash d' ks) (g + 1) h' l'
theorem Ends.same {d : Dk.D} {g h h' n : Nat} {l l' : List (List UInt8)} {e : Int} (i : Idle d) (hl : -1 ≤ d.left) (t : Good d g h l) (he : e = 1 ∨ e = 2 ∨ e = 51) : Ends g h l h' l' d n e (wal g h l) d := by
  refine ⟨i.ok, rfl, i.bad, hl, by rw [i.cache]; exact Nat.zero_le _, Or.inr (Or.inl ⟨he, rfl, rfl⟩), fun ks => Or.inl ⟨?_, by omega⟩⟩
  refine t.keepSome (c := []) (ks := ks) (by intro w hw; cases hw) ?_
  show Dk.keepSome d.s d.cache ks = _
  rw [i.cache]
def nextHead (h : Nat) (l0 : List (List UInt8)) (swap : Bool) : Nat := if swap = true then h + needs l0 else h
def nextRecs (l0 l : List (List UInt8)) (swap : Bool) : List (List UInt8) := if swap = true then l else l0 ++ l
theorem put_ends {d : Dk.D} {g h : Nat} {l0 l : List (List UInt8)} (swap : Bool) (i : Idle d) (hl : -1 ≤ d.left) (t : Good d g h l0) (hg : g + 1 < 18446744073709551616) (hn : h + needs l0 + needs l < 18446744073709551616) :
    ∃ e w d', put (wal g h l0) d l swap = (e, w, d') ∧ Ends g h l0 (nextHead h l0 swap) (nextRecs l0 l swap) d (needs l + 1) e w d' := by
  by_cases hbig : l.any (fun b => decide (60000 < b.length)) = true
  · refine ⟨2, wal g h l0, d, ?_, Ends.same i hl t (by simp)⟩
    unfold put
    rw [if_neg (by simp [wal]), if_pos hbig]
  have small : ∀ b ∈ l, b.length ≤ 60000 := by
    intro b hb
    rcases Nat.lt_or_ge 60000 b.length with q | q
    · exact absurd (List.any_eq_true.2 ⟨b, hb, by simpa using q⟩) hbig
    · exact q
  have fr : free d (wal g h l0) = ring d - needs l0 := by
    show ring d - (h + needs l0 - headOf (recsAt h l0) (h + needs l0)) = _
    rw [headOf_at]
    congr 1
    omega
  have fit0 := t.fits
  by_cases hfull : free d (wal g h l0) < needs l
  · refine ⟨51, wal g h l0, d, ?_, Ends.same i hl t (by simp)⟩
    unfold put
    rw [if_neg (by simp [wal]), if_neg hbig, if_pos hfull]
  rw [fr] at hfull
  have cl := chunks_len small
  obtain ⟨k, lf, dd, er, hk, hw, hlf, hend⟩ := wrs_shape (chunks l) (h + needs l0) d rfl t.len i.dead hl (chunks_small l)
  rw [i.cache, List.nil_append] at hw
  have fw : FreeW d h (needs l0) (wl (ring d) (h + needs l0) (chunks l)) := by
    intro w hw2
    obtain ⟨q, q1, q2, q3, _⟩ := wl_mem hw2
    exact ⟨q, q1, by omega, q3⟩
  have fk : FreeW d h (needs l0) ((wl (ring d) (h + needs l0) (chunks l)).take k) := fun w hw2 => fw w (List.mem_of_mem_take hw2)
  have ok1 : ({ d with cache := (wl (ring d) (h + needs l0) (chunks l)).take k, left := lf, dead := dd } : Dk.D).ok := by
    refine ⟨i.ok.bads, i.ok.few, i.ok.secs, ?_, hlf⟩
    intro w hw2
    obtain ⟨q, q1, q2, q3, c, hc, q4⟩ := wl_mem (List.mem_of_mem_take hw2)
    refine ⟨?_, ?_⟩
    · show w.1 < d.s.length
      rw [q3]
      exact place t.len q
    · rw [q4]
      exact Dk.sec_len (chunks_small l c hc)
  have e0 : put (wal g h l0) d l swap = if er = 0 then turn (wal g h l0) { d with cache := (wl (ring d) (h + needs l0) (chunks l)).take k, left := lf, dead := dd } ((if swap = true then [] else recsAt h l0) ++ recsAt (h + needs l0) l) (h + needs l0 + needs l)
      else (50, { wal g h l0 with over := true }, { d with cache := (wl (ring d) (h + needs l0) (chunks l)).take k, left := lf, dead := dd }) := by
    unfold put
    rw [if_neg (by simp [wal]), if_neg hbig, if_neg (by rw [fr]; exact hfull)]
    simp only [wal, hw]
  rcases hend with ⟨rfl, rfl, rfl⟩ | ⟨rfl, rfl⟩
  · rw [if_pos rfl, List.take_of_length_le (by rw [wl_len]; exact Nat.le_refl _)] at e0
    rw [List.take_of_length_le (by rw [wl_len]; exact Nat.le_refl _)] at ok1
    have e1 : ((if swap = true then [] else recsAt h l0) ++ recsAt (h + needs l0) l) = recsAt (nextHead h l0 swap) (nextRecs l0 l swap) := by
      unfold nextHead nextRecs
      cases swap
      · simp [recsAt_app]
      · simp
    have e2 : h + needs l0 + needs l = nextHead h l0 swap + needs (nextRecs l0 l swap) := by
      unfold nextHead nextRecs
      cases swap
      · simp [needs_app]; omega
      · simp
    have t1 : Good { d with cache := wl (ring d) (h + needs l0) (chunks l), left := lf, dead := false } g h l0 := ⟨t.two, t.len, t.small, t.fits, t.at_⟩
    have at1 : At (Dk.keepAll d.s (wl (ring d) (h + needs l0) (chunks l))) (ring d) (h + needs l0) (l.flatMap secs) := by
      rw [← chunks_secs]
      exact wl_at (chunks l) d.s _ rfl t.len (by omega)
    have at0 := (t.keepAll (e := { d with s := Dk.keepAll d.s (wl (ring d) (h + needs l0) (chunks l)) }) fw rfl).at_
    have rk : ring { d with s := Dk.keepAll d.s (wl (ring d) (h + needs l0) (chunks l)) } = ring d := by unfold ring; show (Dk.keepAll _ _).length - 2 = _; rw [Dk.keepAll_len]
    rw [rk] at at0
    obtain ⟨e, w, d', he, r1, r2, r3, r4, r5, r6, r7⟩ := turn_ends (h' := nextHead h l0 swap) (l' := nextRecs l0 l swap) (c := wl (ring d) (h + needs l0) (chunks l)) ok1 rfl hlf i.bad rfl t1 fw hg (by rw [← e2]; exact hn)
      (by
        unfold nextRecs
        intro b hb
        split at hb
        · exact small b hb
        · rcases List.mem_append.1 hb with q | q
          · exact t.small b q
          · exact small b q)
      (by
        show needs (nextRecs l0 l swap) ≤ ring d
        unfold nextRecs
        split
        · omega
        · rw [needs_app]; omega)
      (by
        show At _ (ring d) (nextHead h l0 swap) ((nextRecs l0 l swap).flatMap secs)
        unfold nextHead nextRecs
        cases swap
        · simp only [Bool.false_eq_true, if_false]
          rw [List.flatMap_append]
          intro j c hc
          by_cases hj : j < (l0.flatMap secs).length
          · exact at0 j c (by rw [List.getElem?_append_left hj] at hc; exact hc)
          · rw [List.getElem?_append_right (by omega)] at hc
            have q := at1 _ c hc
            rw [secs_all_len t.small] at hj q
            rwa [show h + needs l0 + (j - needs l0) = h + j by omega] at q
        · simpa using at1)
    refine ⟨e, w, d', by rw [e0, e1, e2]; exact he, r1, r2, r3, r4, ?_, ?_, r7⟩
    · have : (wl (ring d) (h + needs l0) (chunks l)).length = needs l := by rw [wl_len, cl]
      have r5' : d'.cache.length ≤ (wl (ring d) (h + needs l0) (chunks l)).length + 1 := r5
      omega
    · rcases r6 with q | q
      · exact Or.inl q
      · exact Or.inr (Or.inr q)
  · rw [if_neg (show ¬ (50 : Int) = 0 by decide)] at e0
    refine ⟨_, _, _, e0, ok1, rfl, i.bad, hlf, ?_, Or.inr (Or.inr ⟨rfl, rfl, rfl⟩), fun ks => Or.inl ⟨t.keepSome fk rfl, by decide⟩⟩
    show ((wl (ring d) (h + needs l0) (chunks l)).take k).length ≤ _
    rw [List.length_take, wl_len, cl]
    omega
theorem drop_ends {d : Dk.D} {g h : Nat} {l : List (List UInt8)} (n : Int) (i : Idle d) (hl : -1 ≤ d.left) (t : Good d g h l) (hg : g + 1 < 18446744073709551616) (hn : h + needs l < 18446744073709551616) :
    ∃ e w d', drop (wal g h l) d n = (e, w, d') ∧ Ends g h l (h + needs (l.take n.toNat)) (l.drop n.toNat) d 1 e w d' := by
  by_cases hr : n < 0 ∨ ((recsAt h l).length : Int) < n
  · refine ⟨1, wal g h l, d, ?_, Ends.same i hl t (by simp)⟩
    unfold drop
    rw [if_neg (by simp [wal]), if_pos (show n < 0 ∨ ((wal g h l).recs.length : Int) < n from hr)]
  have e0 : drop (wal g h l) d n = turn (wal g h l) d ((recsAt h l).drop n.toNat) (h + needs l) := by
    unfold drop
    rw [if_neg (by simp [wal]), if_neg (show ¬ (n < 0 ∨ ((wal g h l).recs.length : Int) < n) from hr)]
    rfl
  have sp : needs l = needs (l.take n.toNat) + needs (l.drop n.toNat) := by rw [← needs_app, List.take_append_drop]
  have fit := t.fits
  obtain ⟨e, w, d', he, r1, r2, r3, r4, r5, r6, r7⟩ := turn_ends (h' := h + needs (l.take n.toNat)) (l' := l.drop n.toNat) (c := []) i.ok i.dead hl i.bad i.cache t (by intro w hw; cases hw) hg (by omega)
    (fun b hb => t.small b (List.mem_of_mem_drop hb)) (by omega)
    (by
      show At d.s (ring d) _ _
      have q := t.at_
      rw [show l.flatMap secs = (l.take n.toNat).flatMap secs ++ (l.drop n.toNat).flatMap secs by rw [← List.flatMap_append, List.take_append_drop]] at q
      have q2 := q.right
      rwa [secs_all_len (fun b hb => t.small b (List.mem_of_mem_take hb))] at q2)
  refine ⟨e, w, d', ?_, r1, r2, r3, r4, ?_, ?_, r7⟩
  · rw [e0, recsAt_drop, show h + needs l = h + needs (l.take n.toNat) + needs (l.drop n.toNat) by omega]
    exact he
  · rw [i.cache] at r5
    exact r5
  · rcases r6 with q | q
    · exact Or.inl q
    · exact Or.inr (Or.inr q)
end Wl
end Go.Proofs.YtpnfpeeijghamaaGreat
