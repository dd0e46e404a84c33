/- Frames of plain bytes: the document's Put, Of and All, there and back, and one bit turned. Nothing of the program. -/
import Derived.Test.YthddpenpmjonkaaCc
import Derived.Test.YthddpenpmjonkaaRet
namespace Go.Proofs.Ythddpenpmjonkaa
set_option maxRecDepth 100000
namespace Fr

/-- The length's bytes and the body. -/
def inner (b : List UInt8) : List UInt8 := Cd.fix b.length 2 ++ b
def frame (b : List UInt8) : List UInt8 := 165 :: (inner b ++ Cd.fix (Crc.sum (inner b)) 4)
/-- The length that the frame's second and third byte tell. -/
def long (c : List UInt8) : Nat := (c.getD 1 0).toNat * 256 + (c.getD 2 0).toNat
def body (c : List UInt8) : List UInt8 := (c.drop 3).take (long c)
/-- The body of the frame with which the bytes begin. -/
def unf (c : List UInt8) : Option (List UInt8) :=
  if 7 + long c ≤ c.length ∧ long c ≤ 60000 ∧ frame (body c) = c.take (7 + long c) then some (body c) else none

theorem inner_len (b : List UInt8) : (inner b).length = b.length + 2 := by unfold inner; rw [List.length_append, Cd.fix_len]; omega
theorem frame_len (b : List UInt8) : (frame b).length = 7 + b.length := by
  unfold frame
  rw [List.length_cons, List.length_append, inner_len, Cd.fix_len]
  omega
theorem sum_lt (l : List UInt8) : Crc.sum l < 4294967296 := Crc.more_lt (by decide) l
theorem fix2 (n : Nat) : Cd.fix n 2 = [Cd.byt n 1, Cd.byt n 0] := rfl
theorem long_frame {b : List UInt8} (h : b.length ≤ 60000) (t : List UInt8) : long (frame b ++ t) = b.length := by
  unfold long frame inner
  rw [fix2]
  simp only [List.cons_append, List.append_assoc, List.nil_append, List.getD_cons_succ, List.getD_cons_zero]
  rw [Cd.byt_nat, Cd.byt_nat]
  omega
theorem body_frame {b : List UInt8} (h : b.length ≤ 60000) (t : List UInt8) : body (frame b ++ t) = b := by
  unfold body
  rw [long_frame h]
  unfold frame inner
  rw [fix2]
  simp
theorem unf_frame {b : List UInt8} (h : b.length ≤ 60000) (t : List UInt8) : unf (frame b ++ t) = some b := by
  unfold unf
  rw [long_frame h, body_frame h, if_pos]
  refine ⟨by rw [List.length_append, frame_len]; omega, h, ?_⟩
  rw [← frame_len b, List.take_left]
theorem unf_some {c b : List UInt8} (h : unf c = some b) : c = frame b ++ c.drop (7 + b.length) ∧ b.length ≤ 60000 ∧ 7 + b.length ≤ c.length := by
  unfold unf at h
  split at h
  · rename_i q
    obtain ⟨q1, q2, q3⟩ := q
    injection h with h
    have e : b.length = long c := by
      rw [← h]
      unfold body
      rw [List.length_take, List.length_drop]
      omega
    rw [h] at q3
    refine ⟨?_, by omega, by omega⟩
    rw [e, q3, List.take_append_drop]
  · cases h
theorem unf_iff {c b : List UInt8} : unf c = some b ↔ b.length ≤ 60000 ∧ ∃ t, c = frame b ++ t := by
  constructor
  · intro h
    obtain ⟨h1, h2, _⟩ := unf_some h
    exact ⟨h2, _, h1⟩
  · rintro ⟨h, t, rfl⟩
    exact unf_frame h t
/-- The bodies of the frames one behind the other. -/
def all (c : List UInt8) : List (List UInt8) :=
  match h : unf c with
  | none => []
  | some b => b :: all (c.drop (7 + b.length))
termination_by c.length
decreasing_by
  have := (unf_some h).2.2
  rw [List.length_drop]
  omega
theorem all_none {c : List UInt8} (h : unf c = none) : all c = [] := by
  rw [all]
  split
  · rfl
  · rename_i q; rw [h] at q; cases q
theorem all_some {c b : List UInt8} (h : unf c = some b) : all c = b :: all (c.drop (7 + b.length)) := by
  rw [all]
  split
  · rename_i q; rw [h] at q; cases q
  · rename_i x q
    rw [h] at q
    injection q with q
    subst q
    rfl
theorem all_frame {b : List UInt8} (h : b.length ≤ 60000) (t : List UInt8) : all (frame b ++ t) = b :: all t := by
  rw [all_some (unf_frame h t), ← frame_len b, List.drop_left]
theorem all_frames {l : List (List UInt8)} (h : ∀ b ∈ l, b.length ≤ 60000) (t : List UInt8) : all (l.flatMap frame ++ t) = l ++ all t := by
  induction l with
  | nil => rfl
  | cons b l ih =>
    rw [List.flatMap_cons, List.append_assoc, all_frame (h b (by simp)), ih (fun x hx => h x (by simp [hx]))]
    rfl
theorem all_len (c : List UInt8) : (all c).length * 7 ≤ c.length ∧ ∀ b ∈ all c, b.length ≤ 60000 := by
  induction hn : c.length using Nat.strongRecOn generalizing c with
  | _ n ih =>
    cases hq : unf c with
    | none => rw [all_none hq]; simp
    | some b =>
      obtain ⟨_, q2, q3⟩ := unf_some hq
      obtain ⟨a1, a2⟩ := ih (c.length - (7 + b.length)) (by omega) (c.drop (7 + b.length)) (by rw [List.length_drop])
      rw [all_some hq]
      refine ⟨?_, ?_⟩
      · rw [List.length_cons]; omega
      · intro x hx
        rw [List.mem_cons] at hx
        rcases hx with rfl | hx
        · exact q2
        · exact a2 x hx
/-- A frame of which one byte is another one is none, where a sum tells the bytes apart. -/
theorem turned {b : List UInt8} {i : Nat} {x y : UInt8} (hx : (frame b)[i]? = some x) (hxy : x ≠ y) (hs : ∀ p, (inner b)[p]? = some x → Crc.sum (inner b) ≠ Crc.sum ((inner b).set p y)) :
    ¬ ∃ d, (frame b).set i y = frame d := by
  rintro ⟨d, hd⟩
  have hl : b.length = d.length := by
    have := congrArg List.length hd
    rw [List.length_set, frame_len, frame_len] at this
    omega
  have hi : (inner b).length = (inner d).length := by rw [inner_len, inner_len, hl]
  unfold frame at hx hd
  cases i with
  | zero =>
    rw [List.set_cons_zero] at hd
    simp at hx
    injection hd with h1 _
    exact hxy (hx.symm.trans h1.symm)
  | succ p =>
    rw [List.set_cons_succ] at hd
    rw [List.getElem?_cons_succ] at hx
    injection hd with _ hd
    by_cases hp : p < (inner b).length
    · rw [List.set_append_left _ _ hp] at hd
      rw [List.getElem?_append_left hp] at hx
      obtain ⟨e1, e2⟩ := List.append_inj hd (by rw [List.length_set, hi])
      have e3 := congrArg Cd.ev e2
      rw [Cd.ev_fix_lt (by have := sum_lt (inner b); omega), Cd.ev_fix_lt (by have := sum_lt (inner d); omega)] at e3
      exact hs p hx (by rw [e1]; exact e3)
    · rw [List.set_append_right _ _ (by omega)] at hd
      rw [List.getElem?_append_right (by omega)] at hx
      obtain ⟨e1, e2⟩ := List.append_inj hd hi
      rw [← e1] at e2
      have e3 := congrArg (·[p - (inner b).length]?) e2
      have hlt : p - (inner b).length < (Cd.fix (Crc.sum (inner b)) 4).length := by
        rcases Nat.lt_or_ge (p - (inner b).length) (Cd.fix (Crc.sum (inner b)) 4).length with q | q
        · exact q
        · rw [List.getElem?_eq_none q] at hx; cases hx
      simp only [List.getElem?_set_self hlt] at e3
      rw [hx] at e3
      injection e3 with e3
      exact hxy e3.symm
/-- A frame of which one bit is turned is none. -/
theorem bit {b : List UInt8} {i j : Nat} {x : UInt8} (hx : (frame b)[i]? = some x) (hj : j < 8) {d : List UInt8} (hu : unf ((frame b).set i (UInt8.ofNat (x.toNat ^^^ 2 ^ j))) = some d) : 7 + d.length ≠ ((frame b).set i (UInt8.ofNat (x.toNat ^^^ 2 ^ j))).length := by
  intro hlen
  have ne : x ≠ UInt8.ofNat (x.toNat ^^^ 2 ^ j) := by
    intro e
    have := congrArg UInt8.toNat e
    rw [UInt8.toNat_ofNat', Nat.mod_eq_of_lt (Crc.turned_lt x.toNat_lt hj)] at this
    exact Crc.turned x.toNat j this.symm
  refine turned hx ne (fun p hp => Crc.one_bit hp hj) ⟨d, ?_⟩
  have q := (unf_some hu).1
  rw [hlen, List.drop_length, List.append_nil] at q
  exact q
end Fr
end Go.Proofs.Ythddpenpmjonkaa
