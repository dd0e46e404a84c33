/- Frames of plain bytes: the document's Put, Of and All, there and back, and one bit turned. Nothing of the program. Contracts of the document's own Frame and Unframe. Contract of the document's own Unframe. -/
import Derived.Test.YtbfkjneidabijaaGreatCc
import Derived.Test.YtbfkjneidabijaaGreatRet
import Derived.Test.YtbfkjneidabijaaGreatBy
import Derived.Test.YtbfkjneidabijaaGreatCs
import Derived.Deep.RegionHeld3
import Derived.Deep.QuietTactic
import Derived.BigQuiet
import Derived.IntWalk
namespace Go.Proofs.YtbfkjneidabijaaGreat
set_option maxRecDepth 100000

namespace Fr

/-- The length's bytes and the body. -/
def inner (b : List UInt8) : List UInt8 := Cd.fix b.length 2 ++ b
def frame (b : List UInt8) : List UInt8 := 165 :: (inner b ++ Cd.fix (Crc.sum (inner b)) 4)
/-- The length that the frame's second and third byte tell. -/
def long (c : List UInt8) : Nat := (c.getD 1 0).toNat * 256 + (c.getD 2 0).toNat
def body (c : List UInt8) : List UInt8 := (c.drop 3).take (long c)
/-- The body of the frame with which the bytes begin. -/
def unf (c : List UInt8) : Option (List UInt8) :=
  if 7 + long c ≤ c.length ∧ long c ≤ 60000 ∧ frame (body c) = c.take (7 + long c) then some (body c) else none

theorem inner_len (b : List UInt8) : (inner b).length = b.length + 2 := by unfold inner; rw [List.length_append, Cd.fix_len]; omega
theorem frame_len (b : List UInt8) : (frame b).length = 7 + b.length := by
  unfold frame
  rw [List.length_cons, List.length_append, inner_len, Cd.fix_len]
  omega
theorem sum_lt (l : List UInt8) : Crc.sum l < 4294967296 := Crc.more_lt (by decide) l
theorem fix2 (n : Nat) : Cd.fix n 2 = [Cd.byt n 1, Cd.byt n 0] := rfl
theorem long_frame {b : List UInt8} (h : b.length ≤ 60000) (t : List UInt8) : long (frame b ++ t) = b.length := by
  unfold long frame inner
  rw [fix2]
  simp only [List.cons_append, List.append_assoc, List.nil_append, List.getD_cons_succ, List.getD_cons_zero]
  rw [Cd.byt_nat, Cd.byt_nat]
  omega
theorem body_frame {b : List UInt8} (h : b.length ≤ 60000) (t : List UInt8) : body (frame b ++ t) = b := by
  unfold body
  rw [long_frame h]
  unfold frame inner
  rw [fix2]
  simp
theorem unf_frame {b : List UInt8} (h : b.length ≤ 60000) (t : List UInt8) : unf (frame b ++ t) = some b := by
  unfold unf
  rw [long_frame h, body_frame h, if_pos]
  refine ⟨by rw [List.length_append, frame_len]; omega, h, ?_⟩
  rw [← frame_len b, List.take_left]
theorem unf_some {c b : List UInt8} (h : unf c = some b) : c = frame b ++ c.drop (7 + b.length) ∧ b.length ≤ 60000 ∧ 7 + b.length ≤ c.length := by
  unfold unf at h
  split at h
  · rename_i q
    obtain ⟨q1, q2, q3⟩ := q
    injection h with h
    have e : b.length = long c := by
      rw [← h]
      unfold body
      rw [List.length_take, List.length_drop]
      omega
    rw [h] at q3
    refine ⟨?_, by omega, by omega⟩
    rw [e, q3, List.take_append_drop]
  · cases h
theorem unf_iff {c b : List UInt8} : unf c = some b ↔ b.length ≤ 60000 ∧ ∃ t, c = frame b ++ t := by
  constructor
  · intro h
    obtain ⟨h1, h2, _⟩ := unf_some h
    exact ⟨h2, _, h1⟩
  · rintro ⟨h, t, rfl⟩
    exact unf_frame h t
/-- The bodies of the frames one behind the other. -/
def all (c : List UInt8) : List (List UInt8) :=
  match h : unf c with
  | none => []
  | some b => b :: all (c.drop (7 + b.length))
termination_by c.length
decreasing_by
  have := (unf_some h).2.2
  rw [List.length_drop]
  omega
theorem all_none {c : List UInt8} (h : unf c = none) : all c = [] := by
  rw [all]
  split
  · rfl
  · rename_i q; rw [h] at q; cases q
theorem all_some {c b : List UInt8} (h : unf c = some b) : all c = b :: all (c.drop (7 + b.length)) := by
  rw [all]
  split
  · rename_i q; rw [h] at q; cases q
  · rename_i x q
    rw [h] at q
    injection q with q
    subst q
    rfl
theorem all_frame {b : List UInt8} (h : b.length ≤ 60000) (t : List UInt8) : all (frame b ++ t) = b :: all t := by
  rw [all_some (unf_frame h t), ← frame_len b, List.drop_left]
theorem all_frames {l : List (List UInt8)} (h : ∀ b ∈ l, b.length ≤ 60000) (t : List UInt8) : all (l.flatMap frame ++ t) = l ++ all t := by
  induction l with
  | nil => rfl
  | cons b l ih =>
    rw [List.flatMap_cons, List.append_assoc, all_frame (h b (by simp)), ih (fun x hx => h x (by simp [hx]))]
    rfl
theorem all_len (c : List UInt8) : (all c).length * 7 ≤ c.length ∧ ∀ b ∈ all c, b.length ≤ 60000 := by
  induction hn : c.length using Nat.strongRecOn generalizing c with
  | _ n ih =>
    cases hq : unf c with
    | none => rw [all_none hq]; simp
    | some b =>
      obtain ⟨_, q2, q3⟩ := unf_some hq
      obtain ⟨a1, a2⟩ := ih (c.length - (7 + b.length)) (by omega) (c.drop (7 + b.length)) (by rw [List.length_drop])
      rw [all_some hq]
      refine ⟨?_, ?_⟩
      · rw [List.length_cons]; omega
      · intro x hx
        rw [List.mem_cons] at hx
        rcases hx with rfl | hx
        · exact q2
        · exact a2 x hx
/-- A frame of which one byte is another one is none, where a sum tells the bytes apart. -/
theorem turned {b : List UInt8} {i : Nat} {x y : UInt8} (hx : (frame b)[i]? = some x) (hxy : x ≠ y) (hs : ∀ p, (inner b)[p]? = some x → Crc.sum (inner b) ≠ Crc.sum ((inner b).set p y)) :
    ¬ ∃ d, (frame b).set i y = frame d := by
  rintro ⟨d, hd⟩
  have hl : b.length = d.length := by
    have := congrArg List.length hd
    rw [List.length_set, frame_len, frame_len] at this
    omega
  have hi : (inner b).length = (inner d).length := by rw [inner_len, inner_len, hl]
  unfold frame at hx hd
  cases i with
  | zero =>
    rw [List.set_cons_zero] at hd
    simp at hx
    injection hd with h1 _
    exact hxy (hx.symm.trans h1.symm)
  | succ p =>
    rw [List.set_cons_succ] at hd
    rw [List.getElem?_cons_succ] at hx
    injection hd with _ hd
    by_cases hp : p < (inner b).length
    · rw [List.set_append_left _ _ hp] at hd
      rw [List.getElem?_append_left hp] at hx
      obtain ⟨e1, e2⟩ := List.append_inj hd (by rw [List.length_set, hi])
      have e3 := congrArg Cd.ev e2
      rw [Cd.ev_fix_lt (by have := sum_lt (inner b); omega), Cd.ev_fix_lt (by have := sum_lt (inner d); omega)] at e3
      exact hs p hx (by rw [e1]; exact e3)
    · rw [List.set_append_right _ _ (by omega)] at hd
      rw [List.getElem?_append_right (by omega)] at hx
      obtain ⟨e1, e2⟩ := List.append_inj hd hi
      rw [← e1] at e2
      have e3 := congrArg (·[p - (inner b).length]?) e2
      have hlt : p - (inner b).length < (Cd.fix (Crc.sum (inner b)) 4).length := by
        rcases Nat.lt_or_ge (p - (inner b).length) (Cd.fix (Crc.sum (inner b)) 4).length with q | q
        · exact q
        · rw [List.getElem?_eq_none q] at hx; cases hx
      simp only [List.getElem?_set_self hlt] at e3
      rw [hx] at e3
      injection e3 with e3
      exact hxy e3.symm
/-- A frame of which one bit is turned is none. -/
theorem bit {b : List UInt8} {i j : Nat} {x : UInt8} (hx : (frame b)[i]? = some x) (hj : j < 8) {d : List UInt8} (hu : unf ((frame b).set i (UInt8.ofNat (x.toNat ^^^ 2 ^ j))) = some d) : 7 + d.length ≠ ((frame b).set i (UInt8.ofNat (x.toNat ^^^ 2 ^ j))).length := by
  intro hlen
  have ne : x ≠ UInt8.ofNat (x.toNat ^^^ 2 ^ j) := by
    intro e
    have := congrArg UInt8.toNat e
    rw [UInt8.toNat_ofNat', Nat.mod_eq_of_lt (Crc.turned_lt x.toNat_lt hj)] at this
    exact Crc.turned x.toNat j this.symm
  refine turned hx ne (fun p hp => Crc.one_bit hp hj) ⟨d, ?_⟩
  have q := (unf_some hu).1
  rw [hlen, List.drop_length, List.append_nil] at q
  exact q
end Fr

open Go.RowKit


theorem sum_nat (l : List UInt8) : ((Crc.sum l : Int)).toNat = Crc.sum l := Int.toNat_natCast _

set_option maxHeartbeats 2000000 in
theorem refFrame_c {A : Option Addr} {n c : Nat} {b : List UInt8} {w : World} {B : Nat} {t : TypeId} (hL : Lies w B t A (bcells b)) (hn : n = b.length) (hs : n ≤ 60000) :
    Calls Tryz.prog 63 #[.slice A n c] w (BytesOk w.heap.size (Fr.frame b) w) := by
  have HL := Lib.hid (hL.old (t' := 0))
  have HN := Lib.hid hn
  clear hL hn
  obtain ⟨ti, hi, iz0, iz1, iz2⟩ := info_parts Tryz.infoU8
  go_enter Tryz.func63, Tryz.ntmps63
  go_wp2_with fail
  refine (fixed_c (B := w.heap.size) (l := []) (k := 2) rfl (World.ownsRow_nil _ _ _ _) (Nat.le_refl _) (by omega) (by omega) (by omega) (by simp)).mono ?_
  rintro e w1 ⟨A1, n1, c1, rfl, ho1, t1⟩
  rw [List.nil_append, Cd.fix_len] at ho1
  obtain ⟨rfl, _⟩ := own_room ho1
  have O1 := Lib.hid ho1
  have T1 := Lib.hid t1
  have hz1 := t1.size
  clear ho1 t1
  go_wp2_with (at_builtin; refine wpList_app _ rfl _ _ 57 rfl w.heap.size 5 ti (.int .u8 0) 1 1 Tryz.underlying57 hi iz0 iz1 iz2 rfl (by decide) _ 2 _ rfl O1.out w.heap.size A n c (bcells b) 0 rfl (by rw [bcells_len, HN.out]; omega) (HL.out.below (Nat.le_refl _) T1.out.below) (bcells_one _) (by unfold maxLen; omega) (by omega) hz1 ?_)
  intro v' w2 hown hgrow _
  obtain ⟨A2, k2, rfl⟩ := own_slice hown
  have T2 := Lib.hid (T1.out.trans (app_step O1.out hgrow hz1))
  have hz2 := T2.out.size
  rw [← bcells_app] at hown
  have en : Cd.fix n 2 ++ b = Fr.inner b := by unfold Fr.inner; rw [HN.out]
  rw [en] at hown
  have O2 := Lib.hid hown
  have il : (Fr.inner b).length = 2 + n := by rw [Fr.inner_len, HN.out]; omega
  have IL := Lib.hid il
  clear hown hgrow en il
  have lit : (w2.alloc (.cells #[.int .u8 165] 5)).ownsRow w.heap.size 5 1 (.slice (some ⟨w2.heap.size, 0, none⟩) 1 1) 1 (bcells [165]) := World.ownsRow_lit w2 #[.int .u8 165] 1 hz2 (by decide) rfl
  have LIT := Lib.hid lit
  clear lit
  go_wp2_with (at_builtin; refine wpList_app _ rfl _ _ 57 rfl w.heap.size 5 ti (.int .u8 0) 1 1 Tryz.underlying57 hi iz0 iz1 iz2 rfl (by decide) _ 1 _ rfl LIT.out w.heap.size A2 (2 + n) k2 (bcells (Fr.inner b)) 5 rfl (by rw [bcells_len, IL.out]; omega) (lies_own (O2.out.alloc _)) (bcells_one _) (by unfold maxLen; omega) (by omega) (by simp; omega) ?_)
  intro v' w3 hown hgrow _
  obtain ⟨A3, k3, rfl⟩ := own_slice hown
  have O2b := Lib.hid ((O2.out.alloc _).kept hgrow (Or.inr (fun e => by
    have q := (O2.out.lt w2.heap.size (e.trans rfl)).2
    omega)))
  have T3 := Lib.hid ((T2.out.alloc hz2 _).trans (app_step LIT.out hgrow (by simp; omega)))
  have hz3 := T3.out.size
  rw [← bcells_app] at hown
  have O3 := Lib.hid hown
  clear hown hgrow
  go_wp2_with fail
  refine (refSum32_c _ _ _ (Fr.inner b) _ (B := 0) (t := 5) (lies_own O2b.out) IL.out.symm (by omega)).mono ?_
  rintro e w' ⟨rfl, rfl⟩
  have sl := Fr.sum_lt (Fr.inner b)
  go_wp2_with fail
  refine (fixed_c (B := w.heap.size) (l := [165] ++ Fr.inner b) (k := 4) rfl (by rw [List.length_append, IL.out]; exact O3.out) hz3 (by omega) (by omega) (by omega) (by rw [List.length_append, IL.out]; simp; omega)).mono ?_
  rintro e w4 ⟨A4, n4, c4, rfl, ho4, t4⟩
  rw [sum_nat] at ho4
  have O4 := Lib.hid ho4
  have T4 := Lib.hid (T3.out.trans t4)
  clear ho4 t4
  go_wp2
  go_ret
  exact ⟨A4, n4, c4, rfl, O4.out, T4.out.below⟩

/-- The second and the third byte. -/
theorem Fr.two {l : List UInt8} (h : 3 ≤ l.length) : ∃ x y : UInt8, l[1]? = some x ∧ l[2]? = some y ∧ (x.toNat : Int) * 256 + (y.toNat : Int) = (Fr.long l : Int) ∧ Fr.long l < 65536 := by
  obtain ⟨a, b, c, t, rfl⟩ : ∃ a b c t, l = a :: b :: c :: t := by
    rcases l with _ | ⟨a, _ | ⟨b, _ | ⟨c, t⟩⟩⟩
    · simp at h
    · simp at h
    · simp at h
    · exact ⟨a, b, c, t, rfl⟩
  have := b.toNat_lt
  have := c.toNat_lt
  refine ⟨b, c, rfl, rfl, ?_, ?_⟩
  · simp [Fr.long]
  · simp [Fr.long]; omega


/-- What Unframe (and frame.Of) returned: a body that lies below block B or in a block of bytes, how long its frame is, the error's number. -/
def OfOk (B : Nat) (r : Option (List UInt8)) (w : World) (e : Ending) (w' : World) : Prop :=
  ∃ (A : Option Addr) (n c : Nat) (k er : Int), e = .returned (.tuple #[.slice A n c, .int .i64 k, .int .i64 er]) ∧ Below w.heap.size w w' ∧
    n ≤ c ∧ (∀ b, r = some b → n = b.length ∧ Lies w' B 5 A (bcells b) ∧ k = 7 + (b.length : Int) ∧ er = 0) ∧ (r = none → n = 0 ∧ k = 0 ∧ er = 40)
theorem OfOk.bad {w w' : World} {B : Nat} {A : Option Addr} {c : Nat} (h : Below w.heap.size w w') : OfOk B none w (.returned (.tuple #[.slice A 0 c, .int .i64 0, .int .i64 40])) w' :=
  ⟨A, 0, c, 0, 40, rfl, h, Nat.zero_le _, by simp, by simp⟩
theorem OfOk.good {w w' : World} {B : Nat} {A : Option Addr} {b : List UInt8} {n c : Nat} {k : Int} (h : Below w.heap.size w w') (hn : n = b.length) (hc : n ≤ c) (hL : Lies w' B 5 A (bcells b)) (hk : k = 7 + (b.length : Int)) : OfOk B (some b) w (.returned (.tuple #[.slice A n c, .int .i64 k, .int .i64 0])) w' :=
  ⟨A, n, c, k, 0, rfl, h, hc, fun d hd => by injection hd with hd; subst hd; exact ⟨hn, hL, hk, rfl⟩, by simp⟩

set_option maxHeartbeats 2000000 in
theorem unframe_c {A : Option Addr} {n c : Nat} {l : List UInt8} {w : World} {B : Nat} (hL : Lies w B 5 A (bcells l)) (hB : B ≤ w.heap.size) (hn : n = l.length) (hc : n ≤ c) (hs : n ≤ 1000000000) :
    Calls Tryz.prog 41 #[.slice A n c] w (OfOk B (Fr.unf l) w) := by
  have HL := Lib.hid hL
  have HN := Lib.hid hn
  clear hL hn
  by_cases h3 : n < 3
  · have e : Fr.unf l = none := by
      unfold Fr.unf
      rw [if_neg]
      have := HN.out
      omega
    rw [e]
    go_enter Tryz.func41, Tryz.ntmps41
    go_wp2
    refine bodyPost_ret (v := .tuple #[.slice none 0 0, .int .i64 0, .int .i64 40]) (by simp [results, Tryz.results41, go_sem]) rfl ?_
    exact OfOk.bad (Below.refl _ _)
  · obtain ⟨x, y, hx, hy, hm, hm2⟩ := Fr.two (l := l) (by have := HN.out; omega)
    obtain ⟨ad, rfl, cx⟩ := HL.out.byteAt hx
    obtain ⟨ad', e', cy⟩ := HL.out.byteAt hy
    injection e' with e'
    subst e'
    have cx' : w.cell? ⟨ad.block, ad.off + 1, none⟩ = some (.int .u8 (x.toNat : Int)) := cx
    have cy' : w.cell? ⟨ad.block, ad.off + 2, none⟩ = some (.int .u8 (y.toNat : Int)) := cy
    have n1 : (1 : Int) < n := by omega
    have n2 : (2 : Int) < n := by omega
    clear hx hy cx cy
    obtain ⟨m, em⟩ : ∃ m, m = Fr.long l := ⟨_, rfl⟩
    rw [← em] at hm hm2
    obtain ⟨bd, ebd⟩ : ∃ bd, bd = (l.drop 3).take m := ⟨_, rfl⟩
    obtain ⟨tk, etk⟩ : ∃ tk, tk = l.take (7 + m) := ⟨_, rfl⟩
    have eu : Fr.unf l = if 7 + m ≤ n ∧ m ≤ 60000 ∧ Fr.frame bd = tk then some bd else none := by rw [HN.out, ebd, etk, em]; rfl
    rw [eu]
    by_cases good : m ≤ 60000 ∧ 7 + m ≤ n
    · obtain ⟨g1, g2⟩ := good
      have lb : bd.length = m := by rw [ebd, List.length_take, List.length_drop, ← HN.out]; omega
      have lt : tk.length = 7 + m := by rw [etk, List.length_take, ← HN.out]; omega
      have hBd : Lies w B 5 (some ⟨ad.block, ad.off + 3, none⟩) (bcells bd) := by
        have q := ((HL.out.cut 3 c (by rw [bcells_len, ← HN.out]; exact hc)).take m)
        rw [if_neg (by omega), bcells_drop, bcells_take, ← ebd] at q
        exact q
      have hT : Lies w B 5 (some ad) (bcells tk) := by
        have q := HL.out.take (7 + m)
        rw [bcells_take, ← etk] at q
        exact q
      have HB := Lib.hid hBd
      have HT := Lib.hid hT
      have LB := Lib.hid lb
      have LT := Lib.hid lt
      have cv := conv_at (c := c) hT lt.symm
      clear hBd hT lb lt ebd etk em eu
      have c3 : ¬ c = 3 := by omega
      have t3 : (3 + (m : Int)).toNat - 3 = m := by omega
      have t7 : (7 + (m : Int)).toNat = 7 + m := by omega
      have s3 : IntKind.i64.wrap (3 + (m : Int)) = 3 + (m : Int) := IntWalk.i64_in _ (by omega)
      have s7 : IntKind.i64.wrap (7 + (m : Int)) = 7 + (m : Int) := IntWalk.i64_in _ (by omega)
      have b1 : 0 ≤ 3 + (m : Int) := by omega
      have b2 : 3 + (m : Int) ≤ (c : Int) := by omega
      have b3 : 0 ≤ 7 + (m : Int) := by omega
      have b4 : 7 + (m : Int) ≤ (c : Int) := by omega
      have b5 : (3 : Int) ≤ 3 + (m : Int) := by omega
      cases hf : (Fr.frame bd == tk)
      · have hf' : (Fr.frame bd != tk) = true := by rw [bne, hf]; rfl
        rw [if_neg (by rintro ⟨_, _, e⟩; rw [e] at hf; simp at hf)]
        have HF := Lib.hid hf
        have HF' := Lib.hid hf'
        clear hf hf'
        go_enter Tryz.func41, Tryz.ntmps41
        go_wp2_with fail
        go_region
        clear n1 n2 cx' cy'
        go_wp2_with fail
        have hf := HF.out
        have hf' := HF'.out
        go_region_held (fun w' => (convert 57 9 (.slice (some ad) (7 + m) c)).run Tryz.prog w' = .ok (.string (str tk)) w') (first | exact conv_at (c := c) HT.out LT.out.symm | exact g3) ((go_at_call 63; (refine (refFrame_c (b := bd) (B := B) (t := 5) HB.out.drew.drew LB.out.symm g1).mono ?_); rintro e w6 ⟨Ab, nb, cb, rfl, hob, hb6⟩; have h6 : Below w.heap.size w w6 := ⟨hb6.os, hb6.tape, hb6.output, hb6.size, hb6.block⟩; have gg1 := conv_at (c := cb) (lies_own (B := 0) hob) (own_room hob).1; have g3 := conv_at (c := c) (HT.out.below hB h6) LT.out.symm; have H6 := Lib.hid h6; clear h6 hob hb6))
        go_wp2
        refine bodyPost_ret (v := .tuple #[.slice none 0 0, .int .i64 0, .int .i64 40]) (by simp [results, Tryz.results41, go_sem]) rfl ?_
        exact OfOk.bad H6.out
      · have hf' : (Fr.frame bd != tk) = false := by rw [bne, hf]; rfl
        rw [if_pos ⟨g2, g1, by simpa using hf⟩]
        have HF := Lib.hid hf
        have HF' := Lib.hid hf'
        clear hf hf'
        go_enter Tryz.func41, Tryz.ntmps41
        go_wp2_with fail
        go_region
        clear n1 n2 cx' cy'
        go_wp2_with fail
        have hf := HF.out
        have hf' := HF'.out
        go_region_held (fun w' => (convert 57 9 (.slice (some ad) (7 + m) c)).run Tryz.prog w' = .ok (.string (str tk)) w') (first | exact conv_at (c := c) HT.out LT.out.symm | exact g3) ((go_at_call 63; (refine (refFrame_c (b := bd) (B := B) (t := 5) HB.out.drew.drew LB.out.symm g1).mono ?_); rintro e w6 ⟨Ab, nb, cb, rfl, hob, hb6⟩; have h6 : Below w.heap.size w w6 := ⟨hb6.os, hb6.tape, hb6.output, hb6.size, hb6.block⟩; have gg1 := conv_at (c := cb) (lies_own (B := 0) hob) (own_room hob).1; have g3 := conv_at (c := c) (HT.out.below hB h6) LT.out.symm; have H6 := Lib.hid h6; clear h6 hob hb6))
        go_wp2
        refine bodyPost_ret (v := .tuple #[.slice (some ⟨ad.block, ad.off + 3, none⟩) m (c - 3), .int .i64 (7 + (m : Int)), .int .i64 0]) (by simp [results, Tryz.results41, go_sem]) rfl ?_
        exact OfOk.good H6.out LB.out.symm (by omega) (HB.out.below hB H6.out) (by rw [LB.out])
    · rw [if_neg (fun q => good ⟨q.2.1, q.1⟩)]
      clear ebd etk em eu
      by_cases g1 : m ≤ 60000
      · have g2 : ¬ 7 + m ≤ n := fun q => good ⟨g1, q⟩
        clear good
        go_enter Tryz.func41, Tryz.ntmps41
        go_wp2_with fail
        go_region
        clear n1 n2 cx' cy'
        go_wp2
        refine bodyPost_ret (v := .tuple #[.slice none 0 0, .int .i64 0, .int .i64 40]) (by simp [results, Tryz.results41, go_sem]) rfl ?_
        exact OfOk.bad (Below.refl _ _).drew
      · clear good
        go_enter Tryz.func41, Tryz.ntmps41
        go_wp2_with fail
        go_region
        clear n1 n2 cx' cy'
        go_wp2
        refine bodyPost_ret (v := .tuple #[.slice none 0 0, .int .i64 0, .int .i64 40]) (by simp [results, Tryz.results41, go_sem]) rfl ?_
        exact OfOk.bad (Below.refl _ _).drew
end Go.Proofs.YtbfkjneidabijaaGreat
