/- The document's own Wal in memory; contracts of ring, Need, head, Free. Contracts of the document's own Format and FormatWal. Contract of the document's own OpenWal. Contracts of the document's own Wal: Free, turn, Cut, Records. Contracts of the document's own Wal: Cut. The document's own Wal: words for put: what is at hand while records are written. -/
import Derived.Test.YtpnfpeeijghamaaGreatWa
import Derived.Test.YtpnfpeeijghamaaGreatSv
import Derived.Test.YtpnfpeeijghamaaGreatFr
import Derived.Test.YtpnfpeeijghamaaGreatMm
import Derived.Test.YtpnfpeeijghamaaGreatAp
import Derived.Test.YtpnfpeeijghamaaGreatRg
import Derived.Deep.RegionHeld3
import Derived.Deep.QuietTactic
import Derived.BigQuiet
import Derived.StillTailTactics
namespace Go.Proofs.YtpnfpeeijghamaaGreat
open Go.RowKit
set_option maxRecDepth 100000

/-- A record: its text, and where it begins and ends. -/
structure MRc where
  m : MTx
  fr : Nat
  to : Nat
def MRc.cells (x : MRc) : List Value := [x.m.cell, .int .u64 (x.fr : Int), .int .u64 (x.to : Int)]
def xcells (l : List MRc) : List Value := l.flatMap MRc.cells
def MRc.told (x : MRc) : Wl.Rec := ⟨x.m.b, x.fr, x.to⟩
def xrecs (l : List MRc) : List Wl.Rec := l.map MRc.told
theorem xcells_three (x : MRc) : x.cells.length = 3 := rfl
theorem xcells_len (l : List MRc) : (xcells l).length = l.length * 3 := cel_len fun _ _ => rfl
theorem xcells_snoc (l : List MRc) (x : MRc) : xcells (l ++ [x]) = xcells l ++ x.cells := by simp [xcells]
theorem xcells_one (l : List MRc) : ∀ u ∈ xcells l, u.oneCell' = true := by
  intro u hu
  simp only [xcells, List.mem_flatMap] at hu
  obtain ⟨x, _, hx⟩ := hu
  simp only [MRc.cells, List.mem_cons, List.not_mem_nil, or_false] at hx
  rcases hx with rfl | rfl | rfl <;> rfl
theorem xrecs_len (l : List MRc) : (xrecs l).length = l.length := by simp [xrecs]
theorem xrecs_snoc (l : List MRc) (x : MRc) : xrecs (l ++ [x]) = xrecs l ++ [x.told] := by simp [xrecs]
theorem xcells_drop (l : List MRc) (k : Nat) : (xcells l).drop (k * 3) = xcells (l.drop k) := by
  induction l generalizing k with
  | nil => simp [xcells]
  | cons x l ih =>
    cases k with
    | zero => simp
    | succ k =>
      rw [List.drop_succ_cons, ← ih k, show xcells (x :: l) = x.cells ++ xcells l from rfl, show (k + 1) * 3 = x.cells.length + k * 3 by rw [xcells_three]; omega, List.drop_length_add_append]

/-- A record's text that the wal holds. -/
def HeldR (w : World) (E : Nat → Prop) (x : MRc) : Prop := x.m.fine w 0 5 ∧ InF E x.m.A ∧ x.m.b.length ≤ 60000 ∧ U64 x.fr ∧ U64 x.to
section
variable {w w' : World} {E G : Nat → Prop} {pw p : Nat} {AL : Option Addr} {cL : Nat} {xs : List MRc} {gen tail : Nat} {over : Bool}
theorem HeldR.keepF {x : MRc} (h : HeldR w E x) (hk : ∀ k, E k → w'.heap[k]? = w.heap[k]?) : HeldR w' E x := ⟨⟨h.1.1.keepF h.2.1 hk, h.1.2⟩, h.2⟩
theorem HeldR.mono {x : MRc} (h : HeldR w E x) (hE : ∀ k, E k → G k) : HeldR w G x := ⟨h.1, h.2.1.mono hE, h.2.2⟩
end

namespace Su
theorem format_one {d d1 : Dk.D} {l : List Nat} {e : Int} (h : Dk.write d 0 [] = (e, d1)) (hz : e ≠ 0) : format d l = (e, d1) := by unfold format; rw [h, if_neg hz]
theorem format_two {d d1 d2 : Dk.D} {l : List Nat} {e : Int} (h : Dk.write d 0 [] = (0, d1)) (h2 : Dk.write d1 1 [] = (e, d2)) (hz : e ≠ 0) : format d l = (e, d2) := by unfold format; rw [h, if_pos rfl, h2, if_neg hz]
theorem format_all {d d1 d2 : Dk.D} {l : List Nat} (h : Dk.write d 0 [] = (0, d1)) (h2 : Dk.write d1 1 [] = (0, d2)) : format d l = save d2 0 l := by unfold format; rw [h, if_pos rfl, h2, if_pos rfl]
end Su

namespace Wl
def format (d : Dk.D) : Int × Dk.D := if ring d < 1 then (51, d) else Su.format d [0, 0]
end Wl

namespace Su
theorem load_good {d : Dk.D} {g : Nat} {l : List Nat} (h : load d = (g, l, 0)) : Good g l := by
  have pk : ∀ {x : Option (Nat × List Nat)}, ofPick x = (g, l, 0) → x = some (g, l) := fun {x} hx => by
    cases x with
    | none => injection hx with _ hx; injection hx with _ hx; cases hx
    | some y => injection hx with a hx; injection hx with b _; rw [← a, ← b]
  unfold load at h
  split at h
  · split at h
    · have q := pk h
      unfold pick at q
      split at q
      · exact unslot_good q
      · rename_i e _
        exact unslot_good (e.trans q)
      · rename_i e1 e2
        split at q
        · exact unslot_good (e2.trans q)
        · exact unslot_good (e1.trans q)
    · rename_i hz
      injection h with _ h
      injection h with _ h
      exact absurd h hz
  · rename_i hz
    injection h with _ h
    injection h with _ h
    exact absurd h hz
end Su
namespace Wl
theorem open_err {d : Dk.D} {g : Nat} {l : List Nat} {e : Int} (h : Su.load d = (g, l, e)) (he : e ≠ 0) : openIt d = (e, ⟨0, 0, [], false⟩) := by
  unfold openIt
  rw [h]
  simp only
  rw [if_neg he]
theorem open_count {d : Dk.D} {g : Nat} {l : List Nat} (h : Su.load d = (g, l, 0)) (hl : l.length ≠ 2) : openIt d = (70, ⟨0, 0, [], false⟩) := by
  unfold openIt
  rw [h]
  simp only
  rw [if_pos trivial]
  match l, hl with
  | [], _ => rfl
  | [_], _ => rfl
  | _ :: _ :: _ :: _, _ => rfl
theorem open_wrong {d : Dk.D} {g a b : Nat} (h : Su.load d = (g, [a, b], 0)) (hw : ¬ (a ≤ b ∧ b - a ≤ ring d)) : openIt d = (70, ⟨0, 0, [], false⟩) := by
  unfold openIt
  rw [h]
  simp only
  rw [if_pos trivial, if_neg hw]
theorem open_walk {d : Dk.D} {g a b : Nat} (h : Su.load d = (g, [a, b], 0)) (h1 : a ≤ b) (h2 : b - a ≤ ring d) : openIt d = ((walk d (ring d) (b - a) a a [] []).1, ⟨g, b, (walk d (ring d) (b - a) a a [] []).2, false⟩) := by
  unfold openIt
  rw [h]
  simp only
  rw [if_pos trivial, if_pos ⟨h1, h2⟩]
end Wl

namespace Wl
theorem drop_over {w : W} {d : Dk.D} {n : Int} (h : w.over = true) : drop w d n = (50, w, d) := by unfold drop; rw [if_pos h]
theorem drop_range {w : W} {d : Dk.D} {n : Int} (h : w.over = false) (hn : n < 0 ∨ (w.recs.length : Int) < n) : drop w d n = (1, w, d) := by unfold drop; rw [if_neg (by rw [h]; simp), if_pos hn]
theorem drop_turn {w : W} {d : Dk.D} {n : Nat} (h : w.over = false) (hn : n ≤ w.recs.length) : drop w d (n : Int) = turn w d (w.recs.drop n) w.tail := by unfold drop; rw [if_neg (by rw [h]; simp), if_neg (by omega), Int.toNat_natCast]
end Wl
section
variable {w wr w2 : World} {E F F' O : Nat → Prop} {p : Nat} {D D' : Dk.D} {AO : Option Addr} {cO : Nat} {zs : List MRc}
end

namespace Wl
theorem chunks_cons (b : List UInt8) (l : List (List UInt8)) : chunks (b :: l) = cut (Fr.frame b) ++ chunks l := rfl
theorem wrs_one {r p : Nat} {c : List UInt8} {cs : List (List UInt8)} {d d' : Dk.D} (h : Dk.write d ((2 + p % r : Nat) : Int) c = (0, d')) : wrs r p (c :: cs) d = wrs r (p + 1) cs d' := by
  show (if (Dk.write d ((2 + p % r : Nat) : Int) c).1 = 0 then wrs r (p + 1) cs (Dk.write d ((2 + p % r : Nat) : Int) c).2 else Dk.write d ((2 + p % r : Nat) : Int) c) = _
  rw [h, if_pos rfl]
theorem wrs_bad {r p : Nat} {c : List UInt8} {cs : List (List UInt8)} {d d' : Dk.D} {e : Int} (h : Dk.write d ((2 + p % r : Nat) : Int) c = (e, d')) (he : e ≠ 0) : wrs r p (c :: cs) d = (e, d') := by
  show (if (Dk.write d ((2 + p % r : Nat) : Int) c).1 = 0 then wrs r (p + 1) cs (Dk.write d ((2 + p % r : Nat) : Int) c).2 else Dk.write d ((2 + p % r : Nat) : Int) c) = _
  rw [h, if_neg he]
theorem put_over {w : W} {d : Dk.D} {l : List (List UInt8)} {s : Bool} (h : w.over = true) : put w d l s = (50, w, d) := by unfold put; rw [if_pos h]
theorem put_long {w : W} {d : Dk.D} {l : List (List UInt8)} {s : Bool} (h : w.over = false) (hl : l.any (fun b => decide (60000 < b.length)) = true) : put w d l s = (2, w, d) := by unfold put; rw [if_neg (by rw [h]; simp), if_pos hl]
theorem put_full {w : W} {d : Dk.D} {l : List (List UInt8)} {s : Bool} (h : w.over = false) (hl : ∀ b ∈ l, b.length ≤ 60000) (hf : free d w < needs l) : put w d l s = (51, w, d) := by
  unfold put
  rw [if_neg (by rw [h]; simp), if_neg (by simpa using hl), if_pos hf]
theorem put_bad {w : W} {d d' : Dk.D} {l : List (List UInt8)} {s : Bool} {e : Int} (h : w.over = false) (hl : ∀ b ∈ l, b.length ≤ 60000) (hf : ¬ free d w < needs l) (hw : wrs (ring d) w.tail (chunks l) d = (e, d')) (he : e ≠ 0) : put w d l s = (50, { w with over := true }, d') := by
  unfold put
  rw [if_neg (by rw [h]; simp), if_neg (by simpa using hl), if_neg hf, hw, if_neg he]
theorem put_turn {w : W} {d d' : Dk.D} {l : List (List UInt8)} {s : Bool} (h : w.over = false) (hl : ∀ b ∈ l, b.length ≤ 60000) (hf : ¬ free d w < needs l) (hw : wrs (ring d) w.tail (chunks l) d = (0, d')) : put w d l s = turn w d' ((if s = true then [] else w.recs) ++ recsAt w.tail l) (w.tail + needs l) := by
  unfold put
  rw [if_neg (by rw [h]; simp), if_neg (by simpa using hl), if_neg hf, hw, if_pos rfl]
end Wl
end Go.Proofs.YtpnfpeeijghamaaGreat
