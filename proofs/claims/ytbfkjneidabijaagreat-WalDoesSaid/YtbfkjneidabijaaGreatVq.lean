/- Stage 7: the code's wal and the document's side by side, with no block in common. -/
import Derived.Test.YtbfkjneidabijaaGreatVn
import Derived.Test.YtbfkjneidabijaaGreatVp
namespace Go.Proofs.YtbfkjneidabijaaGreat
open Go.RowKit
set_option maxRecDepth 100000

theorem refAdd7_c {w : World} {E F : Nat → Prop} {pw p : Nat} {x : Wl.W} {d : Dk.D} {A : Option Addr} {n c : Nat} {ms : List MTx} (h : WD w E F pw p x d) (hd : d.ok) (hl : d.left ≤ 9223372036854775807) (hcl : d.cache.length ≤ 1000000) (ug : U64 (x.gen + 1)) (ut : U64 (x.tail + Wl.needs (txs ms)))
    (h1 : Wl.headOf x.recs x.tail ≤ x.tail) (h2 : x.tail - Wl.headOf x.recs x.tail ≤ Wl.ring d) (hm : x.recs.length ≤ 1000000) (ht : Txs w F A ms) (hn : n = ms.length) (hs : n ≤ 1000) :
    Calls Tryz.prog 14 #[.pointer (some ⟨pw, 0, none⟩), .slice A n c] w (WOk E F pw p (Wl.put x d (txs ms) false) w) := by
  have cc := Lib.hid (refPut_c (c := c) h hd hl hcl ug ut h1 h2 hm ht hn hs false)
  clear h hd hl hcl ug ut h1 h2 hm ht hn
  go_enter Tryz.func14, Tryz.ntmps14
  go_wp2_with fail
  refine cc.out.mono ?_
  rintro e w1 ⟨rfl, hq⟩
  have HQ := Lib.hid hq
  clear hq
  go_wp2
  go_ret
  exact ⟨rfl, HQ.out⟩
theorem refSwap7_c {w : World} {E F : Nat → Prop} {pw p : Nat} {x : Wl.W} {d : Dk.D} {A : Option Addr} {n c : Nat} {ms : List MTx} (h : WD w E F pw p x d) (hd : d.ok) (hl : d.left ≤ 9223372036854775807) (hcl : d.cache.length ≤ 1000000) (ug : U64 (x.gen + 1)) (ut : U64 (x.tail + Wl.needs (txs ms)))
    (h1 : Wl.headOf x.recs x.tail ≤ x.tail) (h2 : x.tail - Wl.headOf x.recs x.tail ≤ Wl.ring d) (hm : x.recs.length ≤ 1000000) (ht : Txs w F A ms) (hn : n = ms.length) (hs : n ≤ 1000) :
    Calls Tryz.prog 16 #[.pointer (some ⟨pw, 0, none⟩), .slice A n c] w (WOk E F pw p (Wl.put x d (txs ms) true) w) := by
  have cc := Lib.hid (refPut_c (c := c) h hd hl hcl ug ut h1 h2 hm ht hn hs true)
  clear h hd hl hcl ug ut h1 h2 hm ht hn
  go_enter Tryz.func16, Tryz.ntmps16
  go_wp2_with fail
  refine cc.out.mono ?_
  rintro e w1 ⟨rfl, hq⟩
  have HQ := Lib.hid hq
  clear hq
  go_wp2
  go_ret
  exact ⟨rfl, HQ.out⟩

/-- The code's wal on its disk, the document's wal on its own: apart. -/
structure QW (w : World) (B : Nat) (E G H F : Nat → Prop) (pw q pd p : Nat) (s : VS) (d : Dk.D) (x : Wl.W) (d2 : Dk.D) : Prop where
  c : CWS w B E G pw q s d
  t : WD w H F pd p x d2
  tb : ∀ k, H k ∨ F k → B ≤ k
  ap : ∀ k, H k ∨ F k → ¬ (E k ∨ G k)
section
variable {w w' : World} {B : Nat} {E G H F E2 G2 H2 F2 : Nat → Prop} {pw q pd p pw2 pd2 : Nat} {s s2 : VS} {d d' : Dk.D} {x x2 : Wl.W} {d2 d3 : Dk.D}
theorem QW.keep (h : QW w B E G H F pw q pd p s d x d2) (hb : Below w.heap.size w w') : QW w' B E G H F pw q pd p s d x d2 := ⟨h.c.keep hb, h.t.keep hb, h.tb, h.ap⟩
theorem QW.lo (h : QW w B E G H F pw q pd p s d x d2) : ∀ k, H k ∨ F k → k < w.heap.size := fun k hk => hk.elim (h.t.eo k) (h.t.fo k)
theorem QW.code (h : QW w B E G H F pw q pd p s d x d2) (hs : CWStep w w' B E G E2 G2 pw q s2 d') : QW w' B E2 G2 H F pw q pd p s2 d' x d2 := by
  have far : ∀ k, H k ∨ F k → w'.heap[k]? = w.heap[k]? := fun k hk => hs.but.block k (h.lo k hk) (h.ap k hk)
  exact ⟨hs.cs, ⟨h.t.rd.keep (fun k hk => far k (.inr hk)), h.t.rw.keep (fun k hk => far k (.inl hk)), fun k hk => Nat.lt_of_lt_of_le (h.t.eo k hk) hs.below.size, fun k hk => Nat.lt_of_lt_of_le (h.t.fo k hk) hs.below.size, h.t.ap⟩, h.tb, fun k hk z => h.ap k hk (z.imp (hs.ne k (h.lo k hk)) (hs.ng k (h.lo k hk)))⟩
theorem CWS.but {O : Nat → Prop} (h : CWS w B E G pw q s d) (hb : But O w.heap.size w w') (hO : ∀ k, E k ∨ G k → ¬ O k) : CWS w' B E G pw q s d := by
  obtain ⟨AN, cN, y⟩ := h.x.cw
  exact ⟨⟨h.x.cd.keep (fun k hk _ => hb.block k (h.x.go k hk) (hO k (.inr hk))), ⟨AN, cN, y.keep (fun k hk => hb.block k (h.x.eo k hk) (hO k (.inl hk)))⟩, fun k hk => Nat.lt_of_lt_of_le (h.x.eo k hk) hb.size, fun k hk => Nat.lt_of_lt_of_le (h.x.go k hk) hb.size, h.x.ap⟩, h.eb, h.gb⟩
theorem QW.told (h : QW w B E G H F pw q pd p s d x d2) (hB : B ≤ w.heap.size) (ht : WD w' H2 F2 pd p x2 d3) (nh : ∀ k, k < w.heap.size → H2 k → H k ∨ F k) (nf : ∀ k, k < w.heap.size → F2 k → H k ∨ F k) (hb : But (fun k => H k ∨ F k) w.heap.size w w') : QW w' B E G H2 F2 pw q pd p s d x2 d3 ∧ Below B w w' := by
  have old : ∀ k, k < w.heap.size → H2 k ∨ F2 k → H k ∨ F k := fun k hk z => z.elim (nh k hk) (nf k hk)
  refine ⟨⟨h.c.but hb (fun k hk z => h.ap k z hk), ht, fun k hk => ?_, fun k hk z => ?_⟩, hb.os, hb.tape, hb.output, hb.size, fun k hk => hb.block k (by omega) (fun z => by have := h.tb k z; omega)⟩
  · rcases Nat.lt_or_ge k w.heap.size with y | y
    · exact h.tb k (old k y hk)
    · omega
  · rcases Nat.lt_or_ge k w.heap.size with y | y
    · exact h.ap k (old k y hk) z
    · have := z.elim (h.c.x.eo k) (h.c.x.go k)
      omega
theorem QW.vok {y : Int × VS × Dk.D} {e : Ending} (h : QW w B E G H F pw q pd p s d x d2) (hB : B ≤ w.heap.size) (hp : VOk E G pw q y w e w') : e = .returned (.int .i64 y.1) ∧ ∃ E2 G2, QW w' B E2 G2 H F pw q pd p y.2.1 y.2.2 x d2 ∧ Below B w w' := by
  obtain ⟨he, E2, G2, hs⟩ := VOk.step h.c hB hp
  exact ⟨he, E2, G2, h.code hs, hs.below⟩
theorem QW.wok {y : Int × Wl.W × Dk.D} {e : Ending} (h : QW w B E G H F pw q pd p s d x d2) (hB : B ≤ w.heap.size) (hp : WOk H F pd p y w e w') : e = .returned (.int .i64 y.1) ∧ ∃ H2 F2, QW w' B E G H2 F2 pw q pd p s d y.2.1 y.2.2 ∧ Below B w w' := by
  obtain ⟨he, H2, F2, ht, nh, nf, hb⟩ := hp
  exact ⟨he, H2, F2, h.told hB ht (fun k hk z => .inl (nh k hk z)) (fun k hk z => .inr (nf k hk z)) hb⟩
theorem QW.cok0 {e : Ending} (h : QW w B E G H F pw q pd p s d x d2) (hB : B ≤ w.heap.size) (hl : d'.s.length = d.s.length) (hp : CdOk0 G q d' w e w') : e = .returned (.tuple #[]) ∧ ∃ G2, QW w' B E G2 H F pw q pd p s d' x d2 ∧ Below B w w' := by
  obtain ⟨he, G2, hs⟩ := CdOk0.step h.c.cs hB hp
  exact ⟨he, G2, h.code (h.c.disk hs hl), hs.below⟩
theorem QW.cok {e : Ending} {er : Int} (h : QW w B E G H F pw q pd p s d x d2) (hB : B ≤ w.heap.size) (hl : d'.s.length = d.s.length) (hp : CdOk G q er d' w e w') : e = .returned (.int .i64 er) ∧ ∃ G2, QW w' B E G2 H F pw q pd p s d' x d2 ∧ Below B w w' := by
  obtain ⟨he, G2, hs⟩ := CdOk.step h.c.cs hB hp
  exact ⟨he, G2, h.code (h.c.disk hs hl), hs.below⟩
theorem QW.ds (h : QW w B E G H F pw q pd p s d x d2) : DS w B F p d2 := ⟨h.t.rd, fun k hk => ⟨h.tb k (.inr hk), h.t.fo k hk⟩⟩
theorem QW.dstep (h : QW w B E G H F pw q pd p s d x d2) (hB : B ≤ w.heap.size) (hs : DStep w w' B F F2 p d3) : QW w' B E G H F2 pw q pd p s d x d3 ∧ Below B w w' := by
  refine h.told hB ⟨hs.ds.rd, h.t.rw.keep (fun k hk => hs.but.block k (h.t.eo k hk) (h.t.ap k hk)), fun k hk => Nat.lt_of_lt_of_le (h.t.eo k hk) hs.below.size, fun k hk => (hs.ds.old k hk).2, fun k hk z => h.t.ap k hk (hs.new k (h.t.eo k hk) z)⟩ (fun _ _ z => .inl z) (fun k hk z => .inr (hs.new k hk z)) (hs.but.mono (Nat.le_refl _) (fun _ z => .inr z))
theorem QW.dok0 {e : Ending} (h : QW w B E G H F pw q pd p s d x d2) (hB : B ≤ w.heap.size) (hp : DiskOk0 F p d3 w e w') : e = .returned (.tuple #[]) ∧ ∃ F2, QW w' B E G H F2 pw q pd p s d x d3 ∧ Below B w w' := by
  obtain ⟨he, F2, hs⟩ := DiskOk0.step h.ds hB hp
  exact ⟨he, F2, h.dstep hB hs⟩
theorem QW.dok {e : Ending} {er : Int} (h : QW w B E G H F pw q pd p s d x d2) (hB : B ≤ w.heap.size) (hp : DiskOk F p er d3 w e w') : e = .returned (.int .i64 er) ∧ ∃ F2, QW w' B E G H F2 pw q pd p s d x d3 ∧ Below B w w' := by
  obtain ⟨he, F2, hs⟩ := DiskOk.step h.ds hB hp
  exact ⟨he, F2, h.dstep hB hs⟩
theorem QW.tw (h : QW w B E G H F pw q pd p s d x d2) : Tw B w G F q p d d2 := ⟨h.c.cs, h.ds, fun k hk z => h.ap k (.inr hk) (.inr z)⟩
end

/-- The code's wal opened anew, the document's disk at hand. -/
structure QT (w : World) (B : Nat) (E G F : Nat → Prop) (pw q p : Nat) (s : VS) (d d2 : Dk.D) : Prop where
  c : CWS w B E G pw q s d
  d : DS w B F p d2
  ap : ∀ k, F k → ¬ (E k ∨ G k)
theorem QT.open {w w' : World} {B : Nat} {E G F : Nat → Prop} {pw q p : Nat} {s : VS} {d d2 : Dk.D} {x : Int × Wl.W} {e : Ending} (h : QT w B E G F pw q p s d d2) (hB : B ≤ w.heap.size) (hp : OpenOk p x w e w') (hx : x.1 = 0) :
    ∃ pd H, e = .returned (.tuple #[.pointer (some ⟨pd, 0, none⟩), .int .i64 0]) ∧ QW w' B E G H F pw q pd p s d x.2 d2 ∧ Below w.heap.size w w' := by
  obtain ⟨hb, h1 | h1⟩ := hp
  · obtain ⟨_, pd, he, hr⟩ := h1
    refine ⟨pd, _, he, ⟨h.c.keep hb, ⟨(h.d.keep hb).rd, hr, fun k hk => hk.2, fun k hk => ((h.d.keep hb).old k hk).2, fun k hk z => by have := (h.d.old k z).2; omega⟩, fun k hk => hk.elim (fun z => by omega) (fun z => (h.d.old k z).1), fun k hk z => ?_⟩, hb⟩
    rcases hk with y | y
    · have := z.elim (h.c.x.eo k) (h.c.x.go k)
      omega
    · exact h.ap k y z
  · exact absurd hx h1.1
theorem Tw.opened {w w' : World} {B : Nat} {G F E : Nat → Prop} {q p pw : Nat} {d d2 : Dk.D} {s : VS} (h : Tw B w G F q p d d2) (hb : Below w.heap.size w w') (hc : CWS w' B E G pw q s d) (hE : ∀ k, E k → w.heap.size ≤ k) : QT w' B E G F pw q p s d d2 :=
  ⟨hc, h.d.keep hb, fun k hk z => z.elim (fun y => by have := hE k y; have := (h.d.old k hk).2; omega) (h.ap k hk)⟩

/-- Texts of the caller's, for both. -/
theorem QW.txs {w0 w : World} {E G H F : Nat → Prop} {pw q pd p : Nat} {s : VS} {d : Dk.D} {x : Wl.W} {d2 : Dk.D} {A : Option Addr} {ms : List MTx} {t1 t2 : TypeId} (h : QW w w0.heap.size E G H F pw q pd p s d x d2) (hl : TL w0 w0.heap.size t1 t2 A ms) (hm : ∀ m ∈ ms, m.b.length ≤ 1000000) (hb : Below w0.heap.size w0 w) : Txs w G A ms ∧ Txs w F A ms :=
  ⟨hl.txs hm hb h.c.cs.old, hl.txs hm hb h.ds.old⟩
end Go.Proofs.YtbfkjneidabijaaGreat
