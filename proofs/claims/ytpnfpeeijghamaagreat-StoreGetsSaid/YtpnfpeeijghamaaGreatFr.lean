/- Frames of plain bytes: the document's Put, Of and All, there and back, and one bit turned. Nothing of the program. Contracts of the document's own Frame and Unframe. Contract of the document's own Unframe. Contracts of frame.sum, bytes.Clone, bytes.Equal, frame.size, frame.Put. -/
import Derived.Test.YtpnfpeeijghamaaGreatCs
import Derived.Test.YtpnfpeeijghamaaGreatRet
import Derived.Test.YtpnfpeeijghamaaGreatBy
import Derived.Deep.RegionHeld3
import Derived.Deep.QuietTactic
import Derived.BigQuiet
import Derived.IntWalk
import Derived.WalkSpells
namespace Go.Proofs.YtpnfpeeijghamaaGreat
set_option maxRecDepth 100000

section
namespace Fr

/-- The length's bytes and the body. -/
def inner (b : List UInt8) : List UInt8 := Cd.fix b.length 2 ++ b
def frame (b : List UInt8) : List UInt8 := 165 :: (inner b ++ Cd.fix (Crc.sum (inner b)) 4)
/-- The length that the frame's second and third byte tell. -/
def long (c : List UInt8) : Nat := (c.getD 1 0).toNat * 256 + (c.getD 2 0).toNat
def body (c : List UInt8) : List UInt8 := (c.drop 3).take (long c)
/-- The body of the frame with which the bytes begin. -/
def unf (c : List UInt8) : Option (List UInt8) :=
  if 7 + long c ≤ c.length ∧ long c ≤ 60000 ∧ frame (body c) = c.take (7 + long c) then some (body c) else none

theorem inner_len (b : List UInt8) : (inner b).length = b.length + 2 := by unfold inner; rw [List.length_append, Cd.fix_len]; omega
theorem frame_len (b : List UInt8) : (frame b).length = 7 + b.length := by
  unfold frame
  rw [List.length_cons, List.length_append, inner_len, Cd.fix_len]
  omega
theorem sum_lt (l : List UInt8) : Crc.sum l < 4294967296 := Crc.more_lt (by decide) l
theorem fix2 (n : Nat) : Cd.fix n 2 = [Cd.byt n 1, Cd.byt n 0] := rfl
theorem long_frame {b : List UInt8} (h : b.length ≤ 60000) (t : List UInt8) : long (frame b ++ t) = b.length := by
  unfold long frame inner
  rw [fix2]
  simp only [List.cons_append, List.append_assoc, List.nil_append, List.getD_cons_succ, List.getD_cons_zero]
  rw [Cd.byt_nat, Cd.byt_nat]
  omega
theorem body_frame {b : List UInt8} (h : b.length ≤ 60000) (t : List UInt8) : body (frame b ++ t) = b := by
  unfold body
  rw [long_frame h]
  unfold frame inner
  rw [fix2]
  simp
theorem unf_frame {b : List UInt8} (h : b.length ≤ 60000) (t : List UInt8) : unf (frame b ++ t) = some b := by
  unfold unf
  rw [long_frame h, body_frame h, if_pos]
  refine ⟨by rw [List.length_append, frame_len]; omega, h, ?_⟩
  rw [← frame_len b, List.take_left]
theorem unf_some {c b : List UInt8} (h : unf c = some b) : c = frame b ++ c.drop (7 + b.length) ∧ b.length ≤ 60000 ∧ 7 + b.length ≤ c.length := by
  unfold unf at h
  split at h
  · rename_i q
    obtain ⟨q1, q2, q3⟩ := q
    injection h with h
    have e : b.length = long c := by
      rw [← h]
      unfold body
      rw [List.length_take, List.length_drop]
      omega
    rw [h] at q3
    refine ⟨?_, by omega, by omega⟩
    rw [e, q3, List.take_append_drop]
  · cases h
theorem unf_iff {c b : List UInt8} : unf c = some b ↔ b.length ≤ 60000 ∧ ∃ t, c = frame b ++ t := by
  constructor
  · intro h
    obtain ⟨h1, h2, _⟩ := unf_some h
    exact ⟨h2, _, h1⟩
  · rintro ⟨h, t, rfl⟩
    exact unf_frame h t
/-- The bodies of the frames one behind the other. -/
def all (c : List UInt8) : List (List UInt8) :=
  match h : unf c with
  | none => []
  | some b => b :: all (c.drop (7 + b.length))
termination_by c.length
decreasing_by
  have := (unf_some h).2.2
  rw [List.length_drop]
  omega
theorem all_none {c : List UInt8} (h : unf c = none) : all c = [] := by
  rw [all]
  split
  · rfl
  · rename_i q; rw [h] at q; cases q
theorem all_some {c b : List UInt8} (h : unf c = some b) : all c = b :: all (c.drop (7 + b.length)) := by
  rw [all]
  split
  · rename_i q; rw [h] at q; cases q
  · rename_i x q
    rw [h] at q
    injection q with q
    subst q
    rfl
theorem all_frame {b : List UInt8} (h : b.length ≤ 60000) (t : List UInt8) : all (frame b ++ t) = b :: all t := by
  rw [all_some (unf_frame h t), ← frame_len b, List.drop_left]
theorem all_frames {l : List (List UInt8)} (h : ∀ b ∈ l, b.length ≤ 60000) (t : List UInt8) : all (l.flatMap frame ++ t) = l ++ all t := by
  induction l with
  | nil => rfl
  | cons b l ih =>
    rw [List.flatMap_cons, List.append_assoc, all_frame (h b (by simp)), ih (fun x hx => h x (by simp [hx]))]
    rfl
theorem all_len (c : List UInt8) : (all c).length * 7 ≤ c.length ∧ ∀ b ∈ all c, b.length ≤ 60000 := by
  induction hn : c.length using Nat.strongRecOn generalizing c with
  | _ n ih =>
    cases hq : unf c with
    | none => rw [all_none hq]; simp
    | some b =>
      obtain ⟨_, q2, q3⟩ := unf_some hq
      obtain ⟨a1, a2⟩ := ih (c.length - (7 + b.length)) (by omega) (c.drop (7 + b.length)) (by rw [List.length_drop])
      rw [all_some hq]
      refine ⟨?_, ?_⟩
      · rw [List.length_cons]; omega
      · intro x hx
        rw [List.mem_cons] at hx
        rcases hx with rfl | hx
        · exact q2
        · exact a2 x hx
/-- A frame of which one byte is another one is none, where a sum tells the bytes apart. -/
theorem turned {b : List UInt8} {i : Nat} {x y : UInt8} (hx : (frame b)[i]? = some x) (hxy : x ≠ y) (hs : ∀ p, (inner b)[p]? = some x → Crc.sum (inner b) ≠ Crc.sum ((inner b).set p y)) :
    ¬ ∃ d, (frame b).set i y = frame d := by
  rintro ⟨d, hd⟩
  have hl : b.length = d.length := by
    have := congrArg List.length hd
    rw [List.length_set, frame_len, frame_len] at this
    omega
  have hi : (inner b).length = (inner d).length := by rw [inner_len, inner_len, hl]
  unfold frame at hx hd
  cases i with
  | zero =>
    rw [List.set_cons_zero] at hd
    simp at hx
    injection hd with h1 _
    exact hxy (hx.symm.trans h1.symm)
  | succ p =>
    rw [List.set_cons_succ] at hd
    rw [List.getElem?_cons_succ] at hx
    injection hd with _ hd
    by_cases hp : p < (inner b).length
    · rw [List.set_append_left _ _ hp] at hd
      rw [List.getElem?_append_left hp] at hx
      obtain ⟨e1, e2⟩ := List.append_inj hd (by rw [List.length_set, hi])
      have e3 := congrArg Cd.ev e2
      rw [Cd.ev_fix_lt (by have := sum_lt (inner b); omega), Cd.ev_fix_lt (by have := sum_lt (inner d); omega)] at e3
      exact hs p hx (by rw [e1]; exact e3)
    · rw [List.set_append_right _ _ (by omega)] at hd
      rw [List.getElem?_append_right (by omega)] at hx
      obtain ⟨e1, e2⟩ := List.append_inj hd hi
      rw [← e1] at e2
      have e3 := congrArg (·[p - (inner b).length]?) e2
      have hlt : p - (inner b).length < (Cd.fix (Crc.sum (inner b)) 4).length := by
        rcases Nat.lt_or_ge (p - (inner b).length) (Cd.fix (Crc.sum (inner b)) 4).length with q | q
        · exact q
        · rw [List.getElem?_eq_none q] at hx; cases hx
      simp only [List.getElem?_set_self hlt] at e3
      rw [hx] at e3
      injection e3 with e3
      exact hxy e3.symm
/-- A frame of which one bit is turned is none. -/
theorem bit {b : List UInt8} {i j : Nat} {x : UInt8} (hx : (frame b)[i]? = some x) (hj : j < 8) {d : List UInt8} (hu : unf ((frame b).set i (UInt8.ofNat (x.toNat ^^^ 2 ^ j))) = some d) : 7 + d.length ≠ ((frame b).set i (UInt8.ofNat (x.toNat ^^^ 2 ^ j))).length := by
  intro hlen
  have ne : x ≠ UInt8.ofNat (x.toNat ^^^ 2 ^ j) := by
    intro e
    have := congrArg UInt8.toNat e
    rw [UInt8.toNat_ofNat', Nat.mod_eq_of_lt (Crc.turned_lt x.toNat_lt hj)] at this
    exact Crc.turned x.toNat j this.symm
  refine turned hx ne (fun p hp => Crc.one_bit hp hj) ⟨d, ?_⟩
  have q := (unf_some hu).1
  rw [hlen, List.drop_length, List.append_nil] at q
  exact q
end Fr

open Go.RowKit


theorem sum_nat (l : List UInt8) : ((Crc.sum l : Int)).toNat = Crc.sum l := Int.toNat_natCast _

/-- The second and the third byte. -/
theorem Fr.two {l : List UInt8} (h : 3 ≤ l.length) : ∃ x y : UInt8, l[1]? = some x ∧ l[2]? = some y ∧ (x.toNat : Int) * 256 + (y.toNat : Int) = (Fr.long l : Int) ∧ Fr.long l < 65536 := by
  obtain ⟨a, b, c, t, rfl⟩ : ∃ a b c t, l = a :: b :: c :: t := by
    rcases l with _ | ⟨a, _ | ⟨b, _ | ⟨c, t⟩⟩⟩
    · simp at h
    · simp at h
    · simp at h
    · exact ⟨a, b, c, t, rfl⟩
  have := b.toNat_lt
  have := c.toNat_lt
  refine ⟨b, c, rfl, rfl, ?_, ?_⟩
  · simp [Fr.long]
  · simp [Fr.long]; omega


/-- What Unframe (and frame.Of) returned: a body that lies below block B or in a block of bytes, how long its frame is, the error's number. -/
def OfOk (B : Nat) (r : Option (List UInt8)) (w : World) (e : Ending) (w' : World) : Prop :=
  ∃ (A : Option Addr) (n c : Nat) (k er : Int), e = .returned (.tuple #[.slice A n c, .int .i64 k, .int .i64 er]) ∧ Below w.heap.size w w' ∧
    n ≤ c ∧ (∀ b, r = some b → n = b.length ∧ Lies w' B 5 A (bcells b) ∧ k = 7 + (b.length : Int) ∧ er = 0) ∧ (r = none → n = 0 ∧ k = 0 ∧ er = 40)
theorem OfOk.bad {w w' : World} {B : Nat} {A : Option Addr} {c : Nat} (h : Below w.heap.size w w') : OfOk B none w (.returned (.tuple #[.slice A 0 c, .int .i64 0, .int .i64 40])) w' :=
  ⟨A, 0, c, 0, 40, rfl, h, Nat.zero_le _, by simp, by simp⟩
theorem OfOk.good {w w' : World} {B : Nat} {A : Option Addr} {b : List UInt8} {n c : Nat} {k : Int} (h : Below w.heap.size w w') (hn : n = b.length) (hc : n ≤ c) (hL : Lies w' B 5 A (bcells b)) (hk : k = 7 + (b.length : Int)) : OfOk B (some b) w (.returned (.tuple #[.slice A n c, .int .i64 k, .int .i64 0])) w' :=
  ⟨A, n, c, k, 0, rfl, h, hc, fun d hd => by injection hd with hd; subst hd; exact ⟨hn, hL, hk, rfl⟩, by simp⟩

end

section
open Go.RowKit

theorem i64_or_nat (a b : Nat) (ha : a < 9223372036854775808) (hb : b < 9223372036854775808) : bits .or .i64 (a : Int) (b : Int) = ((a ||| b : Nat) : Int) := by
  have hx : a ||| b < 2 ^ 63 := Nat.or_lt_two_pow (by omega) (by omega)
  show IntKind.i64.wrap ((BitVec.ofInt 64 (a : Int) ||| BitVec.ofInt 64 (b : Int)).toNat : Int) = _
  rw [BitVec.toNat_or, BitVec.ofInt_natCast, BitVec.ofInt_natCast, BitVec.toNat_ofNat, BitVec.toNat_ofNat, Nat.mod_eq_of_lt (by omega), Nat.mod_eq_of_lt (by omega)]
  exact IntWalk.i64_in _ (by omega)
theorem or_two (x y : UInt8) : bits .or .i64 ((x.toNat : Int) * 256) (y.toNat : Int) = (x.toNat : Int) * 256 + (y.toNat : Int) := by
  have hx := x.toNat_lt
  have hy := y.toNat_lt
  have e := i64_or_nat (x.toNat * 256) y.toNat (by omega) (by omega)
  have q := Nat.two_pow_add_eq_or_of_lt (i := 8) (b := y.toNat) hy x.toNat
  rw [show 2 ^ 8 * x.toNat = x.toNat * 256 by omega] at q
  rw [← q] at e
  exact e

/-- Cells that were laid just now, as a row of bytes. -/
theorem row_cells {w : World} {B k : Nat} {cs : Array Value} {l : List UInt8} (hB : B ≤ w.heap.size) (h : cs.toList = bcells l) (hk : l.length = k) (hl : k ≤ maxLen) :
    (w.alloc (.cells cs 5)).ownsRow B 5 1 (.slice (some ⟨w.heap.size, 0, none⟩) k k) l.length (bcells l) := by
  have hs : cs.size = k * 1 := by rw [Nat.mul_one, ← Array.length_toList, h, bcells_len, hk]
  have q := World.ownsRow_lit (base := B) (e := 5) (size := 1) w cs k hB hl hs
  rw [h] at q
  rw [hk]
  exact q
theorem sum_cells {s : Nat} (h : s < 4294967296) : [Value.int .u8 ((s : Int) / 16777216), .int .u8 ((s : Int) / 65536 % 256), .int .u8 ((s : Int) / 256 % 256), .int .u8 ((s : Int) % 256)] = bcells (Cd.fix s 4) := by
  have e : Cd.fix s 4 = [Cd.byt s 3, Cd.byt s 2, Cd.byt s 1, Cd.byt s 0] := rfl
  rw [e]
  have h3 : (s : Int) / 16777216 = (s : Int) / 16777216 % 256 := by omega
  rw [h3]
  simp only [bcells, bcell, List.map_cons, List.map_nil, Cd.byt_nat]
  simp

set_option maxHeartbeats 2000000 in
theorem fsum_c {A : Option Addr} {n c : Nat} {l : List UInt8} {w : World} {B : Nat} {t : TypeId} (hL : Lies w B t A (bcells l)) (hn : n = l.length) (hs : n ≤ 1000000000) :
    Calls Tryz.prog 110 #[.slice A n c] w (BytesOk w.heap.size (Cd.fix (Crc.sum l) 4) w) := by
  have HL := Lib.hid hL
  have HN := Lib.hid hn
  have sl := Fr.sum_lt l
  clear hL hn
  go_enter Tryz.func110, Tryz.ntmps110
  go_wp2_with fail
  refine (crcSum_c _ _ _ l _ HL.out HN.out (by omega)).mono ?_
  rintro e w1 ⟨rfl, rfl⟩
  go_wp2
  go_ret
  exact ⟨_, 4, 4, rfl, row_cells (Nat.le_refl _) (sum_cells sl) rfl (by decide), (Below.refl _ _).alloc (Nat.le_refl _) _⟩

set_option maxHeartbeats 1000000 in
theorem equal_c {A A2 : Option Addr} {n c n2 c2 : Nat} {l m : List UInt8} {w : World} {B B2 : Nat} {t t2 : TypeId} (h : Lies w B t A (bcells l)) (h2 : Lies w B2 t2 A2 (bcells m)) (hn : n = l.length) (hn2 : n2 = m.length) :
    Calls Tryz.prog 121 #[.slice A n c, .slice A2 n2 c2] w fun e w' => e = .returned (.bool (l == m)) ∧ w = w' := by
  have c1 := conv_at (c := c) h hn
  have c3 := conv_at (c := c2) h2 hn2
  clear h h2 hn hn2
  go_enter Tryz.func121, Tryz.ntmps121
  go_wp2
  go_ret
  exact ⟨rfl, rfl⟩

set_option maxHeartbeats 2000000 in
theorem bclone_c {ad : Addr} {n c : Nat} {l : List UInt8} {w : World} {B : Nat} {t : TypeId} (hL : Lies w B t (some ad) (bcells l)) (hn : n = l.length) (hs : n ≤ 1000000000) :
    Calls Tryz.prog 55 #[.slice (some ad) n c] w (BytesOk w.heap.size l w) := by
  have HL := Lib.hid (hL.old (t' := 0))
  have HN := Lib.hid hn
  clear hL hn
  obtain ⟨ti, hi, iz0, iz1, iz2⟩ := info_parts Tryz.infoU8
  have lit := World.ownsRow_lit (base := w.heap.size) (e := 5) (size := 1) w #[] 0 (Nat.le_refl _) (by decide) rfl
  have LIT := Lib.hid lit
  clear lit
  have hq := fun W : World => Lib.run_eql_slice_nil (P := Tryz.prog) W 23 5 (some ad) n c 0 0 Tryz.underlying23
  go_enter Tryz.func55, Tryz.ntmps55
  go_wp2_with (at_builtin; refine wpList_app _ rfl _ _ 23 rfl w.heap.size 5 ti (.int .u8 0) 1 1 Tryz.underlying23 hi iz0 iz1 iz2 rfl (by decide) _ 0 [] rfl LIT.out w.heap.size (some ad) n c (bcells l) 0 rfl (by rw [bcells_len, HN.out]; omega) (HL.out.alloc (Nat.le_refl _) _) (bcells_one _) (by unfold maxLen; omega) (by omega) (by simp) ?_)
  intro v' w2 hown hgrow _
  obtain ⟨A2, k2, rfl⟩ := own_slice hown
  have T2 := Lib.hid (((Tch.refl w.heap.size [5] w).alloc (Nat.le_refl _) _).trans (app_step LIT.out hgrow (by simp)))
  have O2 := Lib.hid hown
  clear hown hgrow
  go_wp2
  go_ret
  exact ⟨A2, _, k2, rfl, by rw [← HN.out]; exact O2.out, T2.out.below⟩
theorem mk_room (k : Nat) (hk : k ≤ 1000000000) {z : Int} (hz : z = (k : Int)) (w : World) : (Instr.makeSlice 23 (.int .i64 0) (.int .i64 z)).run Tryz.prog w = .ok (.slice (some ⟨w.heap.size, 0, none⟩) 0 k) (w.alloc (.cells (bcells (List.replicate k 0)).toArray 5)) := by
  subst hz
  obtain ⟨ti, hi, iz0, iz1, iz2⟩ := info_parts Tryz.infoU8
  have q := run_make (P := Tryz.prog) w 23 5 ti _ Tryz.underlying23 hi iz0 .i64 .i64 0 k (by omega) (by omega) (by rw [iz2]; omega) (by omega)
  rw [q, Int.toNat_natCast, iz1, Nat.mul_one]
  congr 3
  apply Array.toList_inj.1
  have e := toList_madeCells_one (.int .u8 0) k
  rw [show (Value.int .u8 0).cells = #[.int .u8 0] from rfl, e]
  simp [bcells, bcell]
theorem lies3 {w : World} {a b c : UInt8} {x y z : Int} (hx : x = (a.toNat : Int)) (hy : y = (b.toNat : Int)) (hz : z = (c.toNat : Int)) {g : Nat} (hg : g = w.heap.size) : Lies (w.alloc (.cells #[.int .u8 x, .int .u8 y, .int .u8 z] 5)) 0 5 (some ⟨g, 0, none⟩) (bcells [a, b, c]) := by
  subst hx; subst hy; subst hz; subst hg
  exact Lies.of_blk (heap_alloc_new w _)

set_option maxHeartbeats 4000000 in
theorem fput_ok {A : Option Addr} {n c : Nat} {b : List UInt8} {w : World} {B : Nat} {t : TypeId} (hL : Lies w B t A (bcells b)) (hn : n = b.length) (hs : n ≤ 60000) :
    Calls Tryz.prog 93 #[.slice A n c] w (BErrOk w.heap.size 0 (Fr.frame b) w) := by
  have HL := Lib.hid (hL.old (t' := 0))
  have HN := Lib.hid hn
  clear hL hn
  obtain ⟨ti, hi, iz0, iz1, iz2⟩ := info_parts Tryz.infoU8
  have hmk := mk_room (n + 7) (by omega) (z := 3 + (n : Int) + 4) (by omega)
  have made := World.ownsRow_made (base := w.heap.size) (e := 5) (size := 1) w (bcells (List.replicate (n + 7) 0)).toArray (n + 7) (Nat.le_refl _) (by unfold maxLen; omega) (by simp [bcells])
  have MADE := Lib.hid made
  have TM := Lib.hid ((Tch.refl w.heap.size [5] w).alloc (Nat.le_refl _) (.cells (bcells (List.replicate (n + 7) 0)).toArray 5))
  have HX1 := Lib.hid (show (n : Int) / 256 = ((Cd.byt n 1).toNat : Int) by rw [Cd.byt_nat]; omega)
  have HX2 := Lib.hid (show (n : Int) % 256 = ((Cd.byt n 0).toNat : Int) by rw [Cd.byt_nat]; omega)
  clear made
  go_enter Tryz.func93, Tryz.ntmps93
  go_wp2_with (at_builtin; refine wpList_app _ rfl _ _ 23 rfl w.heap.size 5 ti (.int .u8 0) 1 1 Tryz.underlying23 hi iz0 iz1 iz2 rfl (by decide) _ 0 [] rfl (MADE.out.alloc _) 0 _ 3 3 (bcells [165, Cd.byt n 1, Cd.byt n 0]) 5 rfl rfl (lies3 (a := 165) (b := Cd.byt n 1) (c := Cd.byt n 0) rfl HX1.out HX2.out (by simp)) (bcells_one _) (by unfold maxLen; omega) (by omega) (by simp; omega) ?_)
  intro v' w2 hown hgrow _
  obtain ⟨A2, k2, rfl⟩ := own_slice hown
  have T2 := Lib.hid ((TM.out.alloc (by simp) _).trans (app_step (MADE.out.alloc _) hgrow (by simp; omega)))
  have O2 := Lib.hid hown
  have hz2 := T2.out.size
  clear hown hgrow
  go_wp2_with (at_builtin; refine wpList_app _ rfl _ _ 23 rfl w.heap.size 5 ti (.int .u8 0) 1 1 Tryz.underlying23 hi iz0 iz1 iz2 rfl (by decide) _ 3 _ rfl O2.out w.heap.size A n c (bcells b) 0 rfl (by rw [bcells_len, HN.out]; omega) (HL.out.below (Nat.le_refl _) T2.out.below) (bcells_one _) (by unfold maxLen; omega) (by omega) hz2 ?_)
  intro v' w3 hown hgrow _
  obtain ⟨A3, k3, rfl⟩ := own_slice hown
  have T3 := Lib.hid (T2.out.trans (app_step O2.out hgrow hz2))
  have hz3 := T3.out.size
  have er : bcells [165, Cd.byt n 1, Cd.byt n 0] ++ bcells b = bcells (165 :: Fr.inner b) := by
    rw [← bcells_app]
    unfold Fr.inner
    rw [← HN.out, Fr.fix2]
    rfl
  rw [er] at hown
  have il : (165 :: Fr.inner b).length = 3 + n := by rw [List.length_cons, Fr.inner_len, HN.out]; omega
  obtain ⟨_, hk3⟩ := own_room hown
  obtain ⟨g, rfl, _, _, _, _⟩ := own_at hown (by omega)
  have hin : Lies w3 0 5 (some ⟨g, 1, none⟩) (bcells (Fr.inner b)) := by
    have q := (lies_own (B := 0) hown).cut 1 k3 (by rw [bcells_len, il]; exact hk3)
    rw [if_neg (by omega), bcells_drop] at q
    exact q
  have HI := Lib.hid hin
  have O3 := Lib.hid hown
  have IL := Lib.hid (show (Fr.inner b).length = 2 + n by rw [Fr.inner_len, HN.out]; omega)
  have k31 : ¬ k3 = 1 := by omega
  have n31 : 3 + n - 1 = 2 + n := by omega
  have k1 : (1 : Int) ≤ 3 + (n : Int) := by omega
  clear hown hgrow er il hin hmk
  go_wp2_with fail
  refine (fsum_c (c := k3 - 1) HI.out IL.out.symm (by omega)).mono ?_
  rintro e w4 ⟨A4, n4, c4, rfl, ho4, hb4⟩
  have T4 := Lib.hid (T3.out.below.trans (hb4.mono hz3))
  have O34 := Lib.hid (own_below O3.out hb4)
  have hz4 := T4.out.size
  have ho4' : w4.ownsRow w3.heap.size 5 1 (.slice A4 n4 c4) 4 (bcells (Cd.fix (Crc.sum (Fr.inner b)) 4)) := ho4
  obtain ⟨rfl, hc4⟩ := own_room ho4'
  have O4 := Lib.hid ho4'
  clear hb4 ho4 ho4' n31
  go_wp2_with (at_builtin; refine wpList_app _ rfl _ _ 23 rfl w.heap.size 5 ti (.int .u8 0) 1 1 Tryz.underlying23 hi iz0 iz1 iz2 rfl (by decide) _ (3 + n) _ rfl O34.out 0 A4 4 c4 (bcells (Cd.fix (Crc.sum (Fr.inner b)) 4)) 5 rfl rfl (lies_own O4.out) (bcells_one _) (by unfold maxLen; omega) (by omega) hz4 ?_)
  intro v' w5 hown hgrow _
  obtain ⟨A5, k5, rfl⟩ := own_slice hown
  have T5 := Lib.hid (T4.out.trans (app_step O34.out hgrow hz4).below)
  have O5 := Lib.hid hown
  have ef : bcells (165 :: Fr.inner b) ++ bcells (Cd.fix (Crc.sum (Fr.inner b)) 4) = bcells (Fr.frame b) := by
    rw [← bcells_app]; rfl
  have EF := Lib.hid ef
  clear hown hgrow ef
  go_wp2
  go_ret2
  have q := O5.out
  rw [EF.out] at q
  exact ⟨A5, _, k5, rfl, by rw [Fr.frame_len, ← HN.out]; omega, (own_room q).2, q, T5.out⟩

set_option maxHeartbeats 1000000 in
theorem fput_long {A : Option Addr} {n c : Nat} {w : World} (hn : 60000 < n) (hs : n ≤ 1000000000) :
    Calls Tryz.prog 93 #[.slice A n c] w (BErrOk w.heap.size 2 [] w) := by
  go_enter Tryz.func93, Tryz.ntmps93
  go_wp2
  go_ret2
  exact BErrOk.bad (Below.refl _ _)
end
end Go.Proofs.YtpnfpeeijghamaaGreat
