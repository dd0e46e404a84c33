/- Stage 8: puts in memory. Contract of store.Record. Stage 8: contract of store.Record. -/
import Derived.Test.YtpnfpeeijghamaaGreatEa
import Derived.Test.YtpnfpeeijghamaaGreatSup
import Derived.Laws.IdiomStrings
namespace Go.Proofs.YtpnfpeeijghamaaGreat
set_option maxRecDepth 100000

section
open Go.RowKit

/-- A put, and where its value lies. -/
structure MPu where
  p : St.Pu
  A : Option Addr
  c : Nat
def MPu.cells (m : MPu) : List Value := [.string (str m.p.k), .slice m.A m.p.v.length m.c, .bool m.p.g]
def pcells (ms : List MPu) : List Value := ms.flatMap MPu.cells
def MPu.fine (m : MPu) (w : World) (B : Nat) (tb : TypeId) : Prop := Lies w B tb m.A (bcells m.p.v) ∧ m.p.v.length ≤ m.c
def UL (w : World) (B : Nat) (tp tb : TypeId) (A : Option Addr) (ms : List MPu) : Prop := Lies w B tp A (pcells ms) ∧ ∀ m ∈ ms, m.fine w B tb
def pus (ms : List MPu) : List St.Pu := ms.map (·.p)

theorem MPu.cells_len (m : MPu) : m.cells.length = 3 := rfl
theorem pcells_len (ms : List MPu) : (pcells ms).length = ms.length * 3 := cel_len fun m _ => m.cells_len
theorem pcells_snoc (ms : List MPu) (m : MPu) : pcells (ms ++ [m]) = pcells ms ++ m.cells := by simp [pcells]
theorem pus_snoc (ms : List MPu) (m : MPu) : pus (ms ++ [m]) = pus ms ++ [m.p] := by simp [pus]
theorem pus_len (ms : List MPu) : (pus ms).length = ms.length := by simp [pus]
theorem pcells_one (ms : List MPu) : ∀ u ∈ pcells ms, u.oneCell' = true := by
  intro u hu
  simp only [pcells, List.mem_flatMap] at hu
  obtain ⟨m, _, hm⟩ := hu
  simp only [MPu.cells, List.mem_cons, List.not_mem_nil, or_false] at hm
  rcases hm with rfl | rfl | rfl <;> rfl
theorem pcell_one (m : MPu) : ∀ u ∈ m.cells, u.oneCell' = true := fun u hu => pcells_one [m] u (by simpa [pcells] using hu)
section
variable {w w' : World} {B B' : Nat} {tp tb tp' tb' : TypeId} {A : Option Addr} {ms : List MPu}
theorem UL.nil : UL w B tp tb A [] := ⟨Lies.nil, by simp⟩
theorem MPu.fine.tch {m : MPu} (h : m.fine w B tb) {ts : List TypeId} (hT : Tch B ts w w') (h2 : tb ∉ ts) : m.fine w' B tb := ⟨h.1.tch hT h2, h.2⟩
theorem MPu.fine.below {m : MPu} (h : m.fine w B tb) (hB : B ≤ w.heap.size) (hT : Below w.heap.size w w') : m.fine w' B tb := ⟨h.1.below hB hT, h.2⟩
theorem UL.tch (h : UL w B tp tb A ms) {ts : List TypeId} (hT : Tch B ts w w') (h1 : tp ∉ ts) (h2 : tb ∉ ts) : UL w' B tp tb A ms := ⟨h.1.tch hT h1, fun m hm => (h.2 m hm).tch hT h2⟩
theorem UL.below (h : UL w B tp tb A ms) (hB : B ≤ w.heap.size) (hT : Below w.heap.size w w') : UL w' B tp tb A ms := ⟨h.1.below hB hT, fun m hm => (h.2 m hm).below hB hT⟩
theorem UL.more (h : UL w B tp tb A ms) (hB : B ≤ B') : UL w B' tp tb A ms := ⟨h.1.more hB, fun m hm => ⟨(h.2 m hm).1.more hB, (h.2 m hm).2⟩⟩
theorem UL.old (h : UL w B tp tb A ms) : UL w w.heap.size tp' tb' A ms := ⟨h.1.old, fun m hm => ⟨(h.2 m hm).1.old, (h.2 m hm).2⟩⟩
theorem UL.at_ (h : UL w B tp tb A ms) {k : Nat} (hk : k < ms.length) : ∃ ad m, A = some ad ∧ ms[k]? = some m ∧ m.fine w B tb ∧
    w.cell? (ad.add (k * 3)) = some (.string (str m.p.k)) ∧ w.cell? ⟨(ad.add (k * 3)).block, (ad.add (k * 3)).off + 1, none⟩ = some (.slice m.A m.p.v.length m.c) ∧
    w.cell? ⟨(ad.add (k * 3)).block, (ad.add (k * 3)).off + 2, none⟩ = some (.bool m.p.g) := by
  have hx : ms[k]? = some ms[k] := List.getElem?_eq_getElem hk
  obtain ⟨ad, e, _, hc⟩ := h.1 (fun q => by
    have := pcells_len ms
    rw [q] at this
    simp at this
    omega)
  have c : ∀ j u, j < 3 → (ms[k]).cells[j]? = some u → w.cell? ((ad.add (k * 3)).add j) = some u := fun j u hj hu => by
    rw [addr_add]
    exact hc _ _ ((cel_at (f := MPu.cells) (size := 3) (fun m _ => m.cells_len) hx hj).trans hu)
  refine ⟨ad, ms[k], e, hx, h.2 _ (List.getElem_mem hk), ?_, ?_, ?_⟩
  · exact c 0 _ (by omega) rfl
  · exact c 1 _ (by omega) rfl
  · exact c 2 _ (by omega) rfl
end

/-- A string's bytes, laid anew, behind a draw. -/
theorem conv_str (l : List UInt8) (w : World) : ∃ c, (convert 9 23 (.string (str l))).run Tryz.prog w = .ok (.slice (some ⟨w.heap.size, 0, none⟩) l.length c)
    (w.drew.alloc (.cells (bytesRow (str l) c) 5 ((bytesRow (str l) c).size, (bytesRow (str l) c).size + 1))) ∧ l.length ≤ c := by
  have q := run_bytes_of_string (P := Tryz.prog) w 9 23 5 (str l) Tryz.underlying9 Tryz.underlying23 Tryz.underlying5
  have e : (str l).size = l.length := rfl
  rw [e] at q
  exact ⟨_, q, grownCap_ge _ _ _ _⟩
theorem lies_str (l : List UInt8) (c : Nat) (w : World) {fr : Nat × Nat} : Lies (w.alloc (.cells (bytesRow (str l) c) 5 fr)) 0 5 (some ⟨w.heap.size, 0, none⟩) (bcells l) := by
  have h := Lies.of_blk (B := 0) (heap_alloc_new w (.cells (bytesRow (str l) c) 5 fr))
  have e : (bytesRow (str l) c).toList = bcells l ++ List.replicate (c - l.length) (.int .u8 0) := by
    unfold bytesRow
    rw [Array.toList_append, Array.toList_replicate, Array.toList_map]
    rfl
  rw [e] at h
  have q := h.take l.length
  rwa [List.take_left' (bcells_len l)] at q

/-- A Writer whose own bytes lie elsewhere than in block g. -/
def WG (g : Nat) (B : Nat) (w : World) (p : Nat) (l : List UInt8) : Prop :=
  B ≤ p ∧ ∃ A c, w.heap[p]? = some (.cells #[.slice A l.length c] 70 (0, 0)) ∧ w.ownsRow B 5 1 (.slice A l.length c) l.length (bcells l) ∧ ∀ k, (Value.slice A l.length c).ownBlock = some k → k ≠ g
section
variable {g B p : Nat} {w w' : World} {l : List UInt8}
theorem WG.ws (h : WG g B w p l) : WS B w p l := by
  obtain ⟨hB, A, c, hp, ho, _⟩ := h
  exact ⟨hB, A, c, hp, ho⟩
theorem WG.alloc (h : WG g B w p l) (o : Obj) : WG g B (w.alloc o) p l := by
  obtain ⟨hB, A, c, hp, ho, hg⟩ := h
  exact ⟨hB, A, c, blk_alloc hp o, ho.alloc o, hg⟩
theorem WS.apart (h : WS B w p l) (o : Obj) : WG w.heap.size B (w.alloc o) p l := by
  obtain ⟨hB, A, c, hp, ho⟩ := h
  refine ⟨hB, A, c, blk_alloc hp o, ho.alloc o, fun k hk e => ?_⟩
  obtain ⟨_, cs, fr, r⟩ := own_row ho k hk
  have := lt_of_block r
  omega
end

set_option maxHeartbeats 1000000 in
theorem addg_c {g B p : Nat} {l m : List UInt8} {A : Option Addr} {n c : Nat} {w : World} {D : Nat} {t' : TypeId} (h : WG g B w p l) (hg : g < w.heap.size) (hgp : g ≠ p) (hL : Lies w D t' A (bcells m)) (hn : n = m.length) (hs : l.length + m.length ≤ 1099511627776) :
    Calls Tryz.prog 66 #[.pointer (some ⟨p, 0, none⟩), .slice A n c] w fun e w' => e = .returned (.tuple #[]) ∧ WG g B w' p (l ++ m) ∧ w'.heap[g]? = w.heap[g]? ∧ Tch B [70, 5] w w' := by
  have hz := h.ws.size
  obtain ⟨hB, A0, c0, hp, hown, hne⟩ := h
  have c1 := cell_of_one hp
  have f1 := free_of_one hp
  obtain ⟨i0, hi, hz0, hz1, hz2⟩ := info_parts Tryz.infoU8
  have HL := Lib.hid hL
  have HS := Lib.hid hs
  have HN := Lib.hid hne
  clear hL hs hne
  subst hn
  go_enter Tryz.func66, Tryz.ntmps66
  go_wp2_with (at_builtin; refine wpList_app _ rfl _ _ 23 rfl B 5 i0 (.int .u8 0) 1 1 Tryz.underlying23 hi hz0 hz1 hz2 rfl (by decide) _ l.length (bcells l) rfl hown D A m.length c (bcells m) t' rfl (by rw [bcells_len]; omega) HL.out (bcells_one _) (by unfold maxLen; have := HS.out; omega) (by have := HS.out; omega) hz ?_)
  intro v' w1 hown' hgrow hor
  obtain ⟨A1, k1, rfl⟩ := own_slice hown'
  have hp1 := grown_blk hown hgrow hp (by decide)
  have c2 := cell_of_one hp1
  have f2 := free_of_one hp1
  have T1 := grown_tch (B := B) (ts := [70, 5]) hown hgrow (Nat.le_refl _) hz (by decide)
  have G1 := Lib.hid (hgrow.block g hg (fun q => HN.out g q.symm rfl))
  have G2 : Hid (∀ k, (Value.slice A1 (l.length + m.length) k1).ownBlock = some k → k ≠ g) := by
    intro k hk e
    rcases hor with q | q
    · exact HN.out k (q.symm.trans hk) e
    · rw [q] at hk
      injection hk with hk
      omega
  clear hgrow hown hor
  have HO := Lib.hid hown'
  clear hown'
  go_wp2
  go_end0
  refine ⟨rfl, ⟨hB, A1, k1, ?_, ?_, ?_⟩, ?_, ?_⟩
  · rw [List.length_append]
    exact one_setCell hp1
  · rw [List.length_append, bcells_app]
    exact own_far HO.out hp1 (by decide) _
  · rw [List.length_append]
    exact G2
  · exact (Below.heap_setCell w1 _ _ g hgp).trans G1.out
  · exact T1.setCell hp1 (by decide) hB _

set_option maxHeartbeats 1000000 in
/-- One small number, where a block is to stay as it is. -/
theorem wNg_c {g B p : Nat} {l : List UInt8} {w : World} (m : Nat) (h : WG g B w p l) (hg : g < w.heap.size) (hgp : g ≠ p) (hm : m < 128) (hs : l.length + 9 ≤ 1000000000000) :
    Calls Tryz.prog 34 #[.pointer (some ⟨p, 0, none⟩), .slice (some ⟨w.heap.size, 0, none⟩) 1 1] (w.alloc (.cells #[.int .u64 (m : Int)] 62)) fun e w' => e = .returned (.tuple #[]) ∧ WG g B w' p (l ++ Cd.num m) ∧ w'.heap[g]? = w.heap[g]? ∧ Tch B [70, 5] w w' := by
  have hz := h.ws.size
  have h0 : (w.alloc (.cells #[.int .u64 (m : Int)] 62)).heap[w.heap.size]? = some (.cells #[.int .u64 (m : Int)] 62 (0, 0)) := heap_alloc_new w _
  have HW := Lib.hid (h.alloc (.cells #[.int .u64 (m : Int)] 62))
  have HT0 := Lib.hid ((Tch.refl B [70, 5] w).alloc hz (.cells #[.int .u64 (m : Int)] 62))
  have HG0 := Lib.hid (Below.heap_alloc w (.cells #[.int .u64 (m : Int)] 62) g hg)
  obtain ⟨w0, hw0⟩ : ∃ w0, w.alloc (.cells #[.int .u64 (m : Int)] 62) = w0 := ⟨_, rfl⟩
  have hz0 : w0.heap.size = w.heap.size + 1 := by rw [← hw0]; simp
  have hne : w.heap.size ≠ p := by
    obtain ⟨_, _, _, hp, _⟩ := h
    have := lt_of_block hp
    omega
  rw [hw0] at h0 HW HT0 HG0 ⊢
  clear h hw0
  have E := Lib.hid (num_lo (n := (m : Int)) (by omega) (by omega))
  rw [Int.toNat_natCast] at E
  have hlo : (m : Int) < 128 := by omega
  have q0 : 0 ≤ (m : Int) := by omega
  go_enter Tryz.func34, Tryz.ntmps34
  go_wp2_with fail
  go_loopw [9] (fun i wr => ∃ k : Nat, k ≤ 1 ∧ i = .int .i64 (k : Int) ∧ WG g B wr p (l ++ (Cd.num m).take k) ∧ wr.heap[g]? = w0.heap[g]? ∧ Tch B [70, 5] w0 wr) (fun i _ => 1 - (intOf i).toNat)
  case atStart => exact ⟨0, Nat.zero_le _, rfl, by simpa using HW.out, rfl, Tch.refl _ _ _⟩
  case round =>
    obtain ⟨k, hk, rfl, hws, hgb, ht⟩ := hrel
    by_cases hz1 : k < 1
    · obtain rfl : k = 0 := by omega
      have hc : wr.cell? ⟨w.heap.size, 0, none⟩ = some (.int .u64 (m : Int)) := cell_of_one (ht.blk h0 (by decide))
      have hws' : WG g B wr p l := by simpa using hws
      have hgs : g < wr.heap.size := by have := ht.size; omega
      have HT := Lib.hid ht
      have HGB := Lib.hid hgb
      clear hws ht hgb
      go_wp2_with (go_at_call 59; refine (first_lo _ _ q0 hlo).mono ?_; rintro e w' ⟨rfl, rfl⟩)
      have hL : Lies (wr.alloc (.cells #[.int .u8 (m : Int)] 5)) 0 5 (some ⟨wr.heap.size, 0, none⟩) (bcells [Cd.byt m 0]) := lies1 E.out.1 rfl
      refine (addg_c (hws'.alloc _) (by simp; omega) hgp hL rfl (by simp; omega)).mono ?_
      rintro e w' ⟨rfl, hw2, hg2, t2⟩
      have HT2 := Lib.hid t2
      have HG2 := Lib.hid hg2
      clear t2 hg2
      go_wp2
      go_roundw
      case rel =>
        refine ⟨1, by omega, by go_num, ?_, (HG2.out.trans (Below.heap_alloc wr _ g hgs)).trans HGB.out, (HT.out.alloc (by have := HT.out.size; omega) _).trans HT2.out⟩
        rw [E.out.2]
        exact hw2
      case measure => simp [intOf]
    · obtain rfl : k = 1 := by omega
      have e1 : (Cd.num m).take 1 = Cd.num m := by rw [E.out.2]; rfl
      rw [e1] at hws
      go_wp2
      go_end0
      exact ⟨rfl, hws, hgb.trans HG0.out, HT0.out.trans ht⟩

set_option maxHeartbeats 1000000 in
/-- Few bytes, in a block of their own. -/
theorem wBg_c {g B p : Nat} {l b : List UInt8} {n c : Nat} {w : World} (h : WG g B w p l) (hg : g < w.heap.size) (hgp : g ≠ p) (hL : Lies w 0 5 (some ⟨g, 0, none⟩) (bcells b)) (hn : n = b.length) (hb : n < 128) (hs : l.length + b.length + 9 ≤ 1000000000000) :
    Calls Tryz.prog 35 #[.pointer (some ⟨p, 0, none⟩), .slice (some ⟨g, 0, none⟩) n c] w fun e w' => e = .returned (.tuple #[]) ∧ WS B w' p (l ++ St.wb b) ∧ Tch B [70, 5] w w' := by
  have HL := Lib.hid hL
  clear hL
  subst hn
  have nl := num_len b.length
  go_enter Tryz.func35, Tryz.ntmps35
  go_wp2_with fail
  refine (wNg_c b.length h hg hgp hb (by omega)).mono ?_
  rintro e w' ⟨rfl, hw, hg2, t⟩
  have HT := Lib.hid t
  have HL2 : Hid (Lies w' 0 5 (some ⟨g, 0, none⟩) (bcells b)) := fun q => by
    obtain ⟨ad, e1, h1, h2⟩ := HL.out q
    injection e1 with e1
    subst e1
    refine ⟨_, rfl, .inr ?_, fun j u hu => (World.cell?_of_block (by rw [addr_block]; exact hg2)).trans (h2 j u hu)⟩
    rcases h1 with h1 | ⟨cs, fr, h1⟩
    · omega
    · exact ⟨cs, fr, hg2.trans h1⟩
  clear t
  go_wp2_with fail
  refine (add_c hw.ws HL2.out rfl (by rw [List.length_append]; omega)).mono ?_
  rintro e w' ⟨rfl, hw2, t2⟩
  have HT2 := Lib.hid t2
  clear t2
  go_wp2
  go_end0
  exact ⟨rfl, by unfold St.wb; rw [← List.append_assoc]; exact hw2, HT.out.trans HT2.out⟩
end

section
open Go.RowKit

theorem three_cells {w : World} {g : Nat} {a b c : Value} {t : TypeId} {fr : Nat × Nat} (h : w.heap[g]? = some (.cells #[a, b, c] t fr)) : w.cell? ⟨g, 0, none⟩ = some a ∧ w.cell? ⟨g, 1, none⟩ = some b ∧ w.cell? ⟨g, 2, none⟩ = some c :=
  ⟨by simp [World.cell?, h], by simp [World.cell?, h], by simp [World.cell?, h]⟩
theorem encL_take {ms : List MPu} (hl : ∀ m ∈ ms, m.p.k.length < 128 ∧ m.p.v.length ≤ 60000) (k : Nat) : (St.encL (pus (ms.take k))).length ≤ 60134 * k := by
  have q := St.encL_len (l := pus (ms.take k)) (a := 127) (b := 60000) (fun p hp => by
    obtain ⟨m, hm, rfl⟩ := List.mem_map.1 hp
    have := hl m (List.mem_of_mem_take hm)
    omega) (by omega) (by omega)
  rw [pus_len, List.length_take] at q
  have : min k ms.length ≤ k := Nat.min_le_left _ _
  omega

theorem apart_at {B : Nat} {w0 : World} {p : Nat} {l : List UInt8} (h : WS B w0 p l) (o : Obj) {g : Nat} (hg : g = w0.heap.size) : WG g B (w0.alloc o).drew p l := by
  subst hg
  exact h.apart o
theorem lies_str_at (l : List UInt8) (c : Nat) (w0 : World) {fr : Nat × Nat} {g : Nat} (hg : g = w0.heap.size) : Lies (w0.alloc (.cells (bytesRow (str l) c) 5 fr)).drew 0 5 (some ⟨g, 0, none⟩) (bcells l) := by
  subst hg
  exact lies_str l c w0

set_option maxHeartbeats 1000000 in
set_option maxRecDepth 100000 in
theorem record_c {A : Option Addr} {c n : Nat} {ms : List MPu} {all : Bool} {w : World} {B : Nat} {tp tb : TypeId} (h : UL w B tp tb A ms) (hn : n = ms.length) (hm : ms.length ≤ 60000) (hl : ∀ m ∈ ms, m.p.k.length < 128 ∧ m.p.v.length ≤ 60000) :
    Calls Tryz.prog 10 #[.bool all, .slice A n c] w (CloneOk (St.bts all (pus ms)) w) := by
  have HP := Lib.hid (h.old (tp' := 0) (tb' := 0))
  have HL := Lib.hid hl
  have HE := Lib.hid (encL_take hl)
  clear h hl
  subst hn
  have hw0 : WS w.heap.size (w.alloc (.cells #[.slice none 0 0] 70)) w.heap.size [] := ⟨Nat.le_refl _, none, 0, heap_alloc_new w _, World.ownsRow_nil _ _ _ _⟩
  have HW := Lib.hid hw0
  have HB0 := Lib.hid ((Below.refl w.heap.size w).alloc (Nat.le_refl _) (.cells #[.slice none 0 0] 70))
  have hwrap : IntKind.u64.wrap (ms.length : Int) = (ms.length : Int) := by rw [Fl.wrap_u64]; omega
  have fl1 : ∀ g, (St.fl g).length = 1 := fun g => rfl
  clear hw0
  go_enter Tryz.func10, Tryz.ntmps10
  go_wp2_with fail
  refine (wG_c HW.out (by simp)).mono ?_
  rintro e w1 ⟨rfl, hw1, t1⟩
  have HW1 := Lib.hid hw1
  have HB1 := Lib.hid (HB0.out.trans t1.below)
  clear hw1 t1
  go_wp2_with fail
  refine (wN1_c ms.length (by simp) HW1.out rfl (by omega) (by simp)).mono ?_
  rintro e w2 ⟨rfl, hw2, t2⟩
  have HW2 : Hid (WS w.heap.size w2 w.heap.size (St.fl all ++ Cd.num ms.length)) := hw2
  have HB2 := Lib.hid (HB1.out.trans t2.below)
  have nl := num_len ms.length
  clear hw2 t2
  go_wp2_with fail
  go_loopw [22] (fun i wr => ∃ k : Nat, k ≤ ms.length ∧ i = .int .i64 k ∧ WS w.heap.size wr w.heap.size (St.fl all ++ Cd.num ms.length ++ St.encL (pus (ms.take k))) ∧ Below w.heap.size w wr) (fun i _ => ms.length - (intOf i).toNat)
  case atStart => exact ⟨0, by omega, rfl, by simpa [pus, St.encL] using HW2.out, HB2.out⟩
  case round =>
    obtain ⟨k, hk, rfl, hws, hb⟩ := hrel
    have hzr := hb.size
    by_cases hlt : k < ms.length
    · obtain ⟨ad, m, rfl, hm', hfine, d0, d1, d2⟩ := (HP.out.below (Nat.le_refl _) hb).at_ hlt
      have HM := Lib.hid hm'
      have HF := Lib.hid hfine
      have HB := Lib.hid hb
      have lk := (HL.out m (List.mem_of_getElem? hm')).1
      have lv := (HL.out m (List.mem_of_getElem? hm')).2
      have ek := HE.out k
      have HWS := Lib.hid hws
      -- the put's own block
      have hp0 : (wr.alloc (.cells #[.string (str m.p.k), .slice m.A m.p.v.length m.c, .bool m.p.g] 33)).heap[wr.heap.size]? = some (.cells #[.string (str m.p.k), .slice m.A m.p.v.length m.c, .bool m.p.g] 33 (0, 0)) := heap_alloc_new wr _
      have HP0 := Lib.hid hp0
      clear hm' hfine hb hws hp0
      obtain ⟨ck, hcv, hck⟩ := conv_str m.p.k (wr.alloc (.cells #[.string (str m.p.k), .slice m.A m.p.v.length m.c, .bool m.p.g] 33))
      have lsz : (St.fl all ++ Cd.num ms.length ++ St.encL (pus (ms.take k))).length ≤ 100000000000 := by
        simp only [List.length_append, fl1]
        omega
      have key : ∀ (val : List UInt8) (VA : Option Addr) (vc : Nat) (wq : World), val.length ≤ 60000 → Lies wq w.heap.size 0 VA (bcells val) →
          WS w.heap.size wq w.heap.size (St.fl all ++ Cd.num ms.length ++ St.encL (pus (ms.take k)) ++ St.wb m.p.k ++ St.fl m.p.g) →
          Calls Tryz.prog 35 #[.pointer (some ⟨w.heap.size, 0, none⟩), .slice VA val.length vc] wq fun e w' => e = .returned (.tuple #[]) ∧ WS w.heap.size w' w.heap.size (St.fl all ++ Cd.num ms.length ++ St.encL (pus (ms.take k)) ++ St.wb m.p.k ++ St.fl m.p.g ++ St.wb val) ∧ Tch w.heap.size [70, 5] wq w' := fun val VA vc wq hv hL hw => by
        have wl : (St.wb m.p.k).length ≤ 200 := by unfold St.wb; rw [List.length_append]; have := num_len m.p.k.length; omega
        exact wB_c hw hL rfl (by simp only [List.length_append, fl1] at lsz ⊢; omega)
      have KEY := Lib.hid key
      clear key
      have post : ∀ (val : List UInt8) (w5 : World), val = m.p.w → WS w.heap.size w5 w.heap.size (St.fl all ++ Cd.num ms.length ++ St.encL (pus (ms.take k)) ++ St.wb m.p.k ++ St.fl m.p.g ++ St.wb val) → WS w.heap.size w5 w.heap.size (St.fl all ++ Cd.num ms.length ++ St.encL (pus (ms.take (k + 1)))) := fun val w5 e hw => by
        rw [take_next HM.out, pus_snoc, St.encL_snoc]
        subst e
        simpa [St.encP, List.append_assoc] using hw
      have POST := Lib.hid post
      clear post
      cases hg : m.p.g with
      | true =>
        rw [hg] at d2 HP0 hcv
        have HGO := Lib.hid hg
        clear hg
        go_wp2_with fail
        have W3 := Lib.hid (apart_at (HWS.out.alloc (.cells #[.string (str m.p.k), .slice m.A m.p.v.length m.c, .bool true] 33)) (.cells (bytesRow (str m.p.k) ck) 5 ((bytesRow (str m.p.k) ck).size, (bytesRow (str m.p.k) ck).size + 1)) (g := wr.heap.size + 1) (by simp))
        have L3 := Lib.hid (lies_str_at m.p.k ck (wr.alloc (.cells #[.string (str m.p.k), .slice m.A m.p.v.length m.c, .bool true] 33)) (fr := ((bytesRow (str m.p.k) ck).size, (bytesRow (str m.p.k) ck).size + 1)) (g := wr.heap.size + 1) (by simp))
        have B3 := Lib.hid (((HB.out.alloc HB.out.size (.cells #[.string (str m.p.k), .slice m.A m.p.v.length m.c, .bool true] 33)).alloc (by simp; omega) (.cells (bytesRow (str m.p.k) ck) 5 ((bytesRow (str m.p.k) ck).size, (bytesRow (str m.p.k) ck).size + 1))).drew)
        have P3 := Lib.hid (blk_alloc HP0.out (.cells (bytesRow (str m.p.k) ck) 5 ((bytesRow (str m.p.k) ck).size, (bytesRow (str m.p.k) ck).size + 1)))
        go_wp2_with fail
        refine (wBg_c W3.out (by simp) (by omega) L3.out rfl lk (by omega)).mono ?_
        rintro e w3 ⟨rfl, hw3, t3⟩
        have HW3 := Lib.hid hw3
        have pb3 := t3.blk P3.out (by decide)
        obtain ⟨c30, c31, c32⟩ := three_cells pb3
        have PB3 := Lib.hid pb3
        have HB3 := Lib.hid (B3.out.trans t3.below)
        clear hw3 t3 pb3
        go_wp2_with fail
        refine (wG_c HW3.out (by have wl : (St.wb m.p.k).length ≤ 200 := (by unfold St.wb; rw [List.length_append]; have := num_len m.p.k.length; omega); rw [List.length_append]; omega)).mono ?_
        rintro e w4 ⟨rfl, hw4, t4⟩
        have HW4 : Hid (WS w.heap.size w4 w.heap.size (St.fl all ++ Cd.num ms.length ++ St.encL (pus (ms.take k)) ++ St.wb m.p.k ++ St.fl m.p.g)) := by rw [HGO.out]; exact hw4
        have HB4 := Lib.hid (HB3.out.trans t4.below)
        clear hw4 t4
        go_wp2_with fail
        refine (KEY.out [] none 0 w4 (by simp) Lies.nil HW4.out).mono ?_
        rintro e w5 ⟨rfl, hw5, t5⟩
        have HW5 := Lib.hid (POST.out [] w5 (by unfold St.Pu.w; rw [HGO.out]; rfl) hw5)
        have HB5 := Lib.hid (HB4.out.trans t5.below)
        clear hw5 t5
        go_wp2
        go_roundw
        case rel => exact ⟨k + 1, by omega, by go_num, HW5.out, HB5.out⟩
        case measure => simp [intOf]; omega
      | false =>
        rw [hg] at d2 HP0 hcv
        have HGO := Lib.hid hg
        clear hg
        have W3 := Lib.hid (apart_at (HWS.out.alloc (.cells #[.string (str m.p.k), .slice m.A m.p.v.length m.c, .bool false] 33)) (.cells (bytesRow (str m.p.k) ck) 5 ((bytesRow (str m.p.k) ck).size, (bytesRow (str m.p.k) ck).size + 1)) (g := wr.heap.size + 1) (by simp))
        have L3 := Lib.hid (lies_str_at m.p.k ck (wr.alloc (.cells #[.string (str m.p.k), .slice m.A m.p.v.length m.c, .bool false] 33)) (fr := ((bytesRow (str m.p.k) ck).size, (bytesRow (str m.p.k) ck).size + 1)) (g := wr.heap.size + 1) (by simp))
        have B3 := Lib.hid (((HB.out.alloc HB.out.size (.cells #[.string (str m.p.k), .slice m.A m.p.v.length m.c, .bool false] 33)).alloc (by simp; omega) (.cells (bytesRow (str m.p.k) ck) 5 ((bytesRow (str m.p.k) ck).size, (bytesRow (str m.p.k) ck).size + 1))).drew)
        have P3 := Lib.hid (blk_alloc HP0.out (.cells (bytesRow (str m.p.k) ck) 5 ((bytesRow (str m.p.k) ck).size, (bytesRow (str m.p.k) ck).size + 1)))
        go_wp2_with fail
        refine (wBg_c W3.out (by simp) (by omega) L3.out rfl lk (by omega)).mono ?_
        rintro e w3 ⟨rfl, hw3, t3⟩
        have HW3 := Lib.hid hw3
        have pb3 := t3.blk P3.out (by decide)
        obtain ⟨c30, c31, c32⟩ := three_cells pb3
        have PB3 := Lib.hid pb3
        have HB3 := Lib.hid (B3.out.trans t3.below)
        clear hw3 t3 pb3
        go_wp2_with fail
        refine (wG_c HW3.out (by have wl : (St.wb m.p.k).length ≤ 200 := (by unfold St.wb; rw [List.length_append]; have := num_len m.p.k.length; omega); rw [List.length_append]; omega)).mono ?_
        rintro e w4 ⟨rfl, hw4, t4⟩
        have HW4 : Hid (WS w.heap.size w4 w.heap.size (St.fl all ++ Cd.num ms.length ++ St.encL (pus (ms.take k)) ++ St.wb m.p.k ++ St.fl m.p.g)) := by rw [HGO.out]; exact hw4
        have HB4 := Lib.hid (HB3.out.trans t4.below)
        clear hw4 t4
        go_wp2_with fail
        refine (KEY.out m.p.v m.A m.c w4 lv ((HP.out.2 m (List.mem_of_getElem? HM.out)).1.below (Nat.le_refl _) HB4.out) HW4.out).mono ?_
        rintro e w5 ⟨rfl, hw5, t5⟩
        have HW5 := Lib.hid (POST.out m.p.v w5 (by unfold St.Pu.w; rw [HGO.out]; rfl) hw5)
        have HB5 := Lib.hid (HB4.out.trans t5.below)
        clear hw5 t5
        go_wp2
        go_roundw
        case rel => exact ⟨k + 1, by omega, by go_num, HW5.out, HB5.out⟩
        case measure => simp [intOf]; omega
    · obtain rfl : k = ms.length := by omega
      rw [List.take_length] at hws
      have e1 := encL_take HL.out ms.length
      rw [List.take_length] at e1
      have HWS := Lib.hid hws
      have HB := Lib.hid hb
      clear hws hb
      go_wp2_with fail
      refine (wBytes_c HWS.out (by simp only [List.length_append, fl1]; omega)).mono ?_
      rintro e w3 ⟨A3, n3, c3, rfl, ho3, hb3⟩
      have O3 := Lib.hid (own_less ho3 hzr)
      have B3 := Lib.hid (HB.out.trans (hb3.mono hzr))
      clear ho3 hb3
      go_wp2
      go_ret
      refine ⟨A3, n3, c3, rfl, ?_, B3.out⟩
      have e2 : St.bts all (pus ms) = St.fl all ++ Cd.num ms.length ++ St.encL (pus ms) := by unfold St.bts; rw [pus_len]
      rw [e2]
      exact O3.out
end
end Go.Proofs.YtpnfpeeijghamaaGreat
