import Derived.Test.YtpphmbfghfmdlaaGreatY34
import Derived.Test.YtpphmbfghfmdlaaGreatY47
import Derived.Test.YtpphmbfghfmdlaaGreatY49
namespace Go.Proofs.YtpphmbfghfmdlaaGreat
set_option maxRecDepth 100000
section
set_option linter.unusedSimpArgs false
section
open Go.RowKit Go.Lib Go.Shelf
theorem canonRS_c {s : MSt} {w : World} (hs : SM s w) (hl : s.st.light) : Calls Tryz.prog 33 #[s.val] w fun e w' => ∃ m : MSt, e = .returned m.val ∧ TS m w' ∧ m.st = T9.canon s.st ∧ Below w.heap.size w w' := by
 have n1 := hl.nl
 have n2 : (tks s.ms).length ≤ 70 := hl.nt
 rw [tks_len] at n2
 have n1' : s.ls.length ≤ 25 := n1
 refine (canonRT_c (c1 := s.c) (c2 := s.c2) hs.l hs.k rfl rfl (by omega) (by omega) (fun t ht => by have := hl.few t.t (List.mem_map.2 ⟨t, ht, rfl⟩); omega)).mono ?_
 rintro e w' ⟨m, rfl, hst, h1, h2, h3, h4, h5, _, _, hb⟩
 exact ⟨m, rfl, ⟨h1, h2, fun q hq => ⟨(h3 q hq).1, (h3 q hq).2⟩, h4, h5⟩, hst, hb⟩
theorem gone_none {α : Type} {g : α → Nat} {os ns : List α} {i : Nat} {x : α} (hx : os[i]? = some x) (h : firstN g ns (g x) = none) : gone g (os.take (i + 1)) ns = gone g (os.take i) ns ++ [g x] := by
 rw [take_nxt hx]
 unfold gone
 rw [List.filter_append, List.map_append]
 simp [h]
theorem gone_some {α : Type} {g : α → Nat} {os ns : List α} {i : Nat} {x y : α} (hx : os[i]? = some x) (h : firstN g ns (g x) = some y) : gone g (os.take (i + 1)) ns = gone g (os.take i) ns := by
 rw [take_nxt hx]
 unfold gone
 rw [List.filter_append, List.map_append]
 simp [h]
theorem map_snoc {l : List Nat} {x : Nat} : (l ++ [x]).map encU = l.map encU ++ [encU x] := by simp
structure Bt (g : Nat) (v u : World) : Prop where
 os : u.os = v.os
 tape : u.tape = v.tape
 output : u.output = v.output
 size : v.heap.size ≤ u.heap.size
 block : ∀ k, k < v.heap.size → k ≠ g → u.heap[k]? = v.heap[k]?
section
variable {g : Nat} {v u u' : World}
theorem Bt.refl (g : Nat) (v : World) : Bt g v v := ⟨rfl, rfl, rfl, Nat.le_refl _, fun _ _ _ => rfl⟩
theorem Bt.stay (h : Bt g v u) (hb : Below u.heap.size u u') : Bt g v u' := ⟨hb.os.trans h.os, hb.tape.trans h.tape, hb.output.trans h.output, Nat.le_trans h.size hb.size, fun k hk hn => (hb.block k (Nat.lt_of_lt_of_le hk h.size)).trans (h.block k hk hn)⟩
theorem Bt.grown (h : Bt g v u) {row : Option Nat} (hg : u.grownBy u' row) (hr : ∀ k, row = some k → v.heap.size ≤ k) : Bt g v u' :=
 ⟨hg.os.trans h.os, hg.tape.trans h.tape, hg.output.trans h.output, Nat.le_trans h.size hg.size, fun k hk hn => (hg.block k (Nat.lt_of_lt_of_le hk h.size) (fun e => by have := hr k e.symm; omega)).trans (h.block k hk hn)⟩
theorem Bt.set (h : Bt g v u) (i : Nat) (x : Value) : Bt g v (u.setCell ⟨g, i, none⟩ x) :=
 ⟨h.os, h.tape, h.output, by rw [World.size_setCell]; exact h.size, fun k hk hn => (Below.heap_setCell _ _ _ k hn).trans (h.block k hk hn)⟩
theorem Bt.blk (h : Bt g v u) {k : Nat} {o : Obj} (hb : v.heap[k]? = some o) (hn : k ≠ g) : u.heap[k]? = some o := (h.block k (lt_of_block hb) hn).trans hb
theorem Bt.below (h : Bt g v u) {B : Nat} (h1 : B ≤ g) (h2 : B ≤ v.heap.size) : Below B v u := ⟨h.os, h.tape, h.output, h.size, fun k hk => h.block k (by omega) (by omega)⟩
theorem Bt.lies (h : Bt g v u) {cs : Array Value} {fr : Nat × Nat} (hg : v.heap[g]? = some (.cells cs 44 fr)) {t : TypeId} {A : Option Addr} {xs : List Value} (hl : Lies v 0 t A xs) (ht : t ≠ 44) : Lies u 0 t A xs :=
 hl.keep fun b hb => hb.elim (fun q => absurd q (Nat.not_lt_zero _)) (fun ⟨cs2, fr2, r⟩ => h.block b (lt_of_block r) (fun e => by
  subst e
  rw [hg] at r
  injection r with r
  injection r with _ r _
  exact ht r.symm))
theorem Bt.ts (h : Bt g v u) {cs : Array Value} {fr : Nat × Nat} (hg : v.heap[g]? = some (.cells cs 44 fr)) {s : MSt} (hs : TS s v) : TS s u :=
 ⟨h.lies hg hs.l (by decide), h.lies hg hs.k (by decide), fun q hq => ⟨h.lies hg (hs.t q hq).1 (by decide), (hs.t q hq).2⟩, hs.lc, hs.kc⟩
end
structure DI (w : World) (g : Nat) (sa sb : MSt) (cs : Array Value) (v : World) : Prop where
 ga : v.heap[w.heap.size]? = some (.cells #[.slice sa.A sa.ls.length sa.c, .slice sa.A2 sa.ms.length sa.c2] 25 (0, 0))
 gb : v.heap[w.heap.size + 1]? = some (.cells #[.slice sb.A sb.ls.length sb.c, .slice sb.A2 sb.ms.length sb.c2] 25 (0, 0))
 pc : v.heap[w.heap.size + 2]? = some (.cells #[.slice none 0 0, .slice none 0 0, .slice none 0 0, .slice none 0 0] 44 (0, 0))
 pe : v.heap[g]? = some (.cells cs 44 (0, 0))
 ta : TS sa v
 tb : TS sb v
 bw : Below w.heap.size w v
 zg : w.heap.size + 2 < g
theorem DI.next {w : World} {g : Nat} {sa sb : MSt} {cs cs' : Array Value} {v u : World} (h : DI w g sa sb cs v) (hb : Bt g v u) (hp : u.heap[g]? = some (.cells cs' 44 (0, 0))) : DI w g sa sb cs' u :=
 ⟨hb.blk h.ga (by have := h.zg; omega), hb.blk h.gb (by have := h.zg; omega), hb.blk h.pc (by have := h.zg; omega), hp, hb.ts h.pe h.ta, hb.ts h.pe h.tb, h.bw.trans (hb.below (by have := h.zg; omega) h.bw.size), h.zg⟩
set_option maxHeartbeats 8000000 in
theorem diff12_c {a b : MSt} {w : World} (ha : SM a w) (hb : SM b w) (la : a.st.light) (lb : b.st.light) (oa : a.st.ok) (ob : b.st.ok) :
  Calls Tryz.prog 18 #[a.val, b.val] w (OfOk (T9.canon a.st) (T9.canon b.st) w) := by
 obtain ⟨w1, hw1⟩ : ∃ u, w.alloc (.cells #[.slice a.A a.ls.length a.c, .slice a.A2 a.ms.length a.c2] 25) = u := ⟨_, rfl⟩
 obtain ⟨pa, b1, z1⟩ := new_two hw1
 obtain ⟨w2, hw2⟩ : ∃ u, w1.alloc (.cells #[.slice b.A b.ls.length b.c, .slice b.A2 b.ms.length b.c2] 25) = u := ⟨_, rfl⟩
 obtain ⟨pb, b2, z2⟩ := new_two hw2
 obtain ⟨w3, hw3⟩ : ∃ u, w2.alloc (.cells #[.slice none 0 0, .slice none 0 0, .slice none 0 0, .slice none 0 0] 44) = u := ⟨_, rfl⟩
 have b3 : Below w2.heap.size w2 w3 := by rw [← hw3]; exact (Below.refl _ _).alloc (Nat.le_refl _) _
 have pc : w3.heap[w2.heap.size]? = some (.cells #[.slice none 0 0, .slice none 0 0, .slice none 0 0, .slice none 0 0] 44 (0, 0)) := by rw [← hw3]; exact World.alloc_heap_new w2 _
 have z3 : w3.heap.size = w2.heap.size + 1 := by rw [← hw3]; simp
 have y2 : w2.heap.size = w.heap.size + 2 := by omega
 have y3 : w3.heap.size = w.heap.size + 3 := by omega
 clear z2 z3
 rw [z1] at pb
 rw [y2] at pc
 have BW : Hid (Below w.heap.size w w3) := hid ((b1.trans (b2.mono (by omega))).trans (b3.mono (by omega)))
 have PA : Hid (w3.heap[w.heap.size]? = some (.cells #[.slice a.A a.ls.length a.c, .slice a.A2 a.ms.length a.c2] 25 (0, 0))) := hid ((b3.block w.heap.size (by omega)).trans ((b2.block w.heap.size (by omega)).trans pa))
 have PB : Hid (w3.heap[w.heap.size + 1]? = some (.cells #[.slice b.A b.ls.length b.c, .slice b.A2 b.ms.length b.c2] 25 (0, 0))) := hid ((b3.block (w.heap.size + 1) (by omega)).trans pb)
 have PC := hid pc
 have Y3 := hid y3
 have CA := fun (v : World) (hv : Below w3.heap.size w3 v) => canonRS_c ((ha.stay BW.out).stay hv) la
 have CB := fun (v : World) (hv : Below w3.heap.size w3 v) => canonRS_c ((hb.stay BW.out).stay hv) lb
 unfold MSt.val at CA CB
 have CA' := hid CA
 have CB' := hid CB
 have LA := hid (c12_light la)
 have LB := hid (c12_light lb)
 have OA := hid (c12_ok oa)
 have OB := hid (c12_ok ob)
 clear ha hb la lb oa ob pa pb pc b1 b2 b3 CA CB
 show Calls Tryz.prog 18 #[.agg #[.slice a.A a.ls.length a.c, .slice a.A2 a.ms.length a.c2], .agg #[.slice b.A b.ls.length b.c, .slice b.A2 b.ms.length b.c2]] w _
 go_enter Tryz.func18, Tryz.ntmps18
 go_upto_region 1 with fail
 refine Any.begin (S := fun u => u.heap[w.heap.size + 1]? = some (.cells #[.slice b.A b.ls.length b.c, .slice b.A2 b.ms.length b.c2] 25 (0, 0))) (st := 5) mixed9 ?_
 have S0 : w3.drew.heap[w.heap.size + 1]? = some (.cells #[.slice b.A b.ls.length b.c, .slice b.A2 b.ms.length b.c2] 25 (0, 0)) := PB.out
 have D0 : Hid (Below w3.heap.size w3 w3.drew) := hid (Below.refl _ _).drew
 refine tkA 2 ?_ rfl (by kernel_rfl) rfl (by kernel_rfl) rfl ?_ S0 ?_
 rotate_left
 ·intro u hu;obtain ⟨y0, y1⟩ := two_cells hu;go_simp;try rfl
 try simp only [Act.put, pS]
 refine Any.one (i := 0) (by kernel_rfl) rfl (fun K hK => ?_)
 obtain ⟨x0, x1⟩ := two_cells (show w3.drew.heap[w.heap.size]? = some (.cells #[.slice a.A a.ls.length a.c, .slice a.A2 a.ms.length a.c2] 25 (0, 0)) from PA.out)
 go_simp
 refine hK _ _ (fun _ => S0) ?_
 clear hK K x0 x1
 try simp only [Act.put, pS]
 refine Any.one (i := 1) (by kernel_rfl) rfl (fun K hK => ?_)
 go_simp
 refine (CA'.out _ D0.out).mono ?_
 rintro e va ⟨sa, rfl, hta, hsa, hba⟩
 have S1 := blk_keep S0 hba
 have TA := hid hta
 have QA := hid hsa
 have DA : Hid (Below w3.heap.size w3 va) := hid (D0.out.trans (hba.mono D0.out.size))
 refine hK _ _ (fun _ => S1) ?_
 clear hK K S0 hta hsa hba
 have S0 := S1
 clear S1
 try simp only [Act.put, pS]
 refine Any.one (i := 3) (by kernel_rfl) rfl (fun K hK => ?_)
 go_simp
 refine (CB'.out _ DA.out).mono ?_
 rintro e vb ⟨sb, rfl, htb, hsb, hbb⟩
 have S1 := blk_keep S0 hbb
 have TB := hid htb
 have QB := hid hsb
 have TA2 := hid (TA.out.stay hbb)
 have DB : Hid (Below w3.heap.size w3 vb) := hid (DA.out.trans (hbb.mono DA.out.size))
 refine hK _ _ (fun _ => S1) ?_
 clear hK K S0 htb hsb hbb
 have S0 := S1
 clear S1
 try simp only [Act.put, pS]
 refine Any.one (i := 4) (by kernel_rfl) rfl (fun K hK => ?_)
 have ga := (DB.out.block w.heap.size (by have := Y3.out; omega)).trans PA.out
 have PC2 : Hid (vb.heap[w.heap.size + 2]? = some (.cells #[.slice none 0 0, .slice none 0 0, .slice none 0 0, .slice none 0 0] 44 (0, 0))) := hid ((DB.out.block (w.heap.size + 2) (by have := Y3.out; omega)).trans PC.out)
 obtain ⟨g0, g1⟩ := two_cells ga
 have gf0 := blk_free ga 0
 have gf1 := blk_free ga 1
 go_simp
 obtain ⟨vc, hvc⟩ : ∃ u, (vb.setCell ⟨w.heap.size, 0, none⟩ (.slice sa.A sa.ls.length sa.c)).setCell ⟨w.heap.size, 1, none⟩ (.slice sa.A2 sa.ms.length sa.c2) = u := ⟨_, rfl⟩
 try rw [hvc]
 obtain ⟨t4, ga4, k4, b4⟩ := st_set ga hvc
 have S1 := (k4 (w.heap.size + 1) (by omega)).trans S0
 have GA := hid ga4
 have PC4 := hid ((k4 (w.heap.size + 2) (by omega)).trans PC2.out)
 have TA4 := hid (TA2.out.tch t4 (by decide) (by decide) (by decide))
 have TB4 := hid (TB.out.tch t4 (by decide) (by decide) (by decide))
 have B4 : Hid (Below w.heap.size w vc) := hid ((BW.out.trans (DB.out.mono (by have := Y3.out; omega))).trans (b4 _ (Nat.le_refl _)))
 refine hK _ _ (fun _ => S1) ?_
 clear hK K S0 ga g0 g1 gf0 gf1 t4 ga4 k4 b4 hvc
 have S0 := S1
 clear S1
 try simp only [Act.put, pS]
 refine Any.one (i := 5) (by kernel_rfl) rfl (fun K hK => ?_)
 obtain ⟨g0, g1⟩ := two_cells S0
 have gf0 := blk_free S0 0
 have gf1 := blk_free S0 1
 go_simp
 obtain ⟨vd, hvd⟩ : ∃ u, (vc.setCell ⟨w.heap.size + 1, 0, none⟩ (.slice sb.A sb.ls.length sb.c)).setCell ⟨w.heap.size + 1, 1, none⟩ (.slice sb.A2 sb.ms.length sb.c2) = u := ⟨_, rfl⟩
 try rw [hvd]
 obtain ⟨t4, gb4, k4, b4⟩ := st_set S0 hvd
 have GB := hid gb4
 have GA5 := hid ((k4 w.heap.size (by omega)).trans GA.out)
 have PC5 := hid ((k4 (w.heap.size + 2) (by omega)).trans PC4.out)
 have TA5 := hid (TA4.out.tch t4 (by decide) (by decide) (by decide))
 have TB5 := hid (TB4.out.tch t4 (by decide) (by decide) (by decide))
 have B5 : Hid (Below w.heap.size w vd) := hid (B4.out.trans (b4 _ (by omega)))
 refine hK _ _ (fun z => absurd rfl z) ?_
 clear hK K S0 g0 g1 gf0 gf1 t4 gb4 k4 b4 hvd
 try simp only [Act.put, pS]
 refine Any.done (by kernel_rfl) ?_
 clear PA PB PC PC2 PC4 GA TA TA2 TB TA4 TB4 CA' CB' D0 DA DB B4
 obtain ⟨v1, hve⟩ : ∃ u, vd.alloc (.cells #[.slice none 0 0, .slice none 0 0, .slice none 0 0, .slice none 0 0] 44) = u := ⟨_, rfl⟩
 have be : Below vd.heap.size vd v1 := by rw [← hve]; exact (Below.refl _ _).alloc (Nat.le_refl _) _
 obtain ⟨g, hg⟩ : ∃ g, vd.heap.size = g := ⟨_, rfl⟩
 have pe : v1.heap[g]? = some (.cells #[.slice none 0 0, .slice none 0 0, .slice none 0 0, .slice none 0 0] 44 (0, 0)) := by rw [← hve, ← hg]; exact World.alloc_heap_new vd _
 have ZD : w.heap.size + 2 < g := by rw [← hg]; exact lt_of_block PC5.out
 have EA1 : sa.ls = (T9.canon a.st).lists := congrArg T9.St.lists QA.out
 have EA2 : tks sa.ms = (T9.canon a.st).tasks := congrArg T9.St.tasks QA.out
 have EB1 : sb.ls = (T9.canon b.st).lists := congrArg T9.St.lists QB.out
 have EB2 : tks sb.ms = (T9.canon b.st).tasks := congrArg T9.St.tasks QB.out
 have NA1 : sa.ls.length ≤ 25 := by rw [EA1]; exact LA.out.nl
 have NB1 : sb.ls.length ≤ 25 := by rw [EB1]; exact LB.out.nl
 have NA2 : sa.ms.length ≤ 70 := by rw [← tks_len, EA2]; exact LA.out.nt
 have NB2 : sb.ms.length ≤ 70 := by rw [← tks_len, EB2]; exact LB.out.nt
 have mem : ∀ {s : MSt} {m : MTk}, m ∈ s.ms → m.t ∈ tks s.ms := fun {s m} h => List.mem_map.2 ⟨m, h, rfl⟩
 have KA : Hid (∀ m ∈ sa.ms, m.t.short ∧ m.t.ok) := hid (fun m hm => ⟨LA.out.short.2.1 m.t (by rw [← EA2]; exact mem hm), OA.out.2 m.t (by rw [← EA2]; exact mem hm)⟩)
 have KB : Hid (∀ m ∈ sb.ms, m.t.short ∧ m.t.ok) := hid (fun m hm => ⟨LB.out.short.2.1 m.t (by rw [← EB2]; exact mem hm), OB.out.2 m.t (by rw [← EB2]; exact mem hm)⟩)
 have E1 := hid EA1
 have E2 := hid EA2
 have E3 := hid EB1
 have E4 := hid EB2
 have D1 : Hid (DI w g sa sb #[.slice none 0 0, .slice none 0 0, .slice none 0 0, .slice none 0 0] v1) := hid ⟨blk_keep GA5.out be, blk_keep GB.out be, blk_keep PC5.out be, pe, TA5.out.stay be, TB5.out.stay be, B5.out.trans (be.mono (by rw [hg]; omega)), ZD⟩
 try rw [hve]
 clear be pe EA1 EA2 EB1 EB2 mem LA LB OA OB QA QB GA5 GB PC5 TA5 TB5 B5
 obtain ⟨als, aA, ac, ams, aK, ak⟩ := sa
 obtain ⟨bls, bA, bc, bms, bK, bk⟩ := sb
 dsimp only at NA1 NA2 NB1 NB2 KA KB E1 E2 E3 E4
 obtain ⟨x0, x1⟩ := two_cells D1.out.ga
 go_wp2_with fail
 clear x0 x1
 go_loopw [29] (fun s wr => ∃ (i k1 : Nat) (R1 : Option Addr) (C1 : Nat), s = .int .i64 i ∧ i ≤ als.length ∧ k1 ≤ i ∧ Hid (k1 = (gone idL (als.take i) bls).length) ∧ Hid (wr.ownsRow v1.heap.size 26 1 (.slice R1 k1 C1) k1 (List.map encU (gone idL (als.take i) bls))) ∧ Hid (wr.heap[g]? = some (.cells #[.slice none 0 0, .slice none 0 0, .slice R1 k1 C1, .slice none 0 0] 44 (0, 0))) ∧ Hid (Bt g v1 wr)) (fun s _ => als.length - (intOf s).toNat)
 case atStart => exact ⟨0, 0, none, 0, rfl, Nat.zero_le _, Nat.le_refl _, hid rfl, hid (World.ownsRow_nil _ _ _ _), hid D1.out.pe, hid (Bt.refl _ _)⟩
 case round =>
  obtain ⟨i, k1, R1, C1, rfl, hin, hki, HKl, OW, PX, BT⟩ := hrel
  by_cases hlt : i < als.length
  ·have hltz : (i : Int) < ((als.length : Nat) : Int) := by omega
   have TT := hid (BT.out.ts D1.out.pe D1.out.ta)
   have TO := hid (BT.out.ts D1.out.pe D1.out.tb)
   obtain ⟨ad, l, hA, hx, q0, q1⟩ := TT.out.sm.l.at_ (k := i) hlt
   dsimp only at hA hx
   subst hA
   have X := hid hx
   try dsimp only at q0 q1 q2 q3 q4 q5 q6
   have e0 := BT.out.blk D1.out.gb (by have := D1.out.zg; omega)
   obtain ⟨w2, hw2⟩ : ∃ u, wr.alloc (.cells #[.int .u64 (l.id : Int), .string (str l.name)] 51) = u := ⟨_, rfl⟩
   obtain ⟨lb, b2, z2⟩ := new_two hw2
   have LB := hid lb
   have B2 := hid b2
   obtain ⟨l0, l1⟩ := two_cells lb
   obtain ⟨o0, o1⟩ := two_cells (blk_keep e0 b2)
   rcases hF : firstN idL bls (l.id) with _ | y
   ·have NW := hid (gone_none X.out hF)
    have CF : Hid (Calls Tryz.prog 22 #[.agg #[.slice bA bls.length bc, .slice bK bms.length bk], .int .u64 (l.id : Int)] w2 (fun e w' => e = .returned (.tuple #[.agg #[.int .u64 0, .string ⟨#[]⟩], .bool false]) ∧ Below w2.heap.size w2 w')) := hid ((refList_c (c := bc) (A2 := bK) (n2 := bms.length) (c2 := bk) (n1 := bls.length) (TO.out.sm.l.stay b2) rfl (Nat.le_trans NB1 (by decide)) (l.id)).mono (fun e w' h => ⟨h.1.trans (by unfold T9.findL; rw [show bls.find? (fun z => z.id == l.id) = none from hF]; rfl), h.2⟩))
    clear hF hx lb b2 e0
    go_upto_region 8 with (go_at_call 22; refine CF.out.mono ?_; rintro e w3 ⟨rfl, hb3⟩; have B3 := hid hb3; have LB3 := hid (blk_keep LB.out hb3); have hz3 := hb3.size; clear hb3)
    obtain ⟨w4, hw4⟩ : ∃ u, w3.alloc (.cells #[.int .u64 0, .string ⟨#[]⟩] 51) = u := ⟨_, rfl⟩
    try rw [hw4]
    obtain ⟨yb, b4, z4⟩ := new_two hw4
    have B4 : Hid (Below w2.heap.size w2 w4) := hid (B3.out.trans (b4.mono B3.out.size))
    clear yb b4 z4
    have LB5 := hid (blk_keep LB.out B4.out)
    have PX5 := hid (blk_keep (blk_keep PX.out B2.out) B4.out)
    have OW5 := hid (own_below (own_below OW.out B2.out) B4.out)
    have BT5 : Hid (Bt g v1 w4) := hid ((BT.out.stay B2.out).stay B4.out)
    obtain ⟨j0, j1⟩ := two_cells LB5.out
    obtain ⟨p0, p1, p2, p3⟩ := four12 PX5.out
    have OWE := hid (OW5.out.alloc (.cells #[.int .u64 (l.id : Int)] 26))
    have LE : Hid (Lies (w4.alloc (.cells #[.int .u64 (l.id : Int)] 26)) 0 26 (some ⟨w4.heap.size, 0, none⟩) [encU (l.id)]) := hid (Lies.of_blk (heap_alloc_new w4 _))
    have ZZ := hid BT5.out.size
    have zz := ZZ.out
    have PXE := hid (blk_alloc PX5.out (.cells #[.int .u64 (l.id : Int)] 26))
    obtain ⟨ti0, thi, tz0, tz1, tz2⟩ := info_parts infoU
    go_wp2_with (at_builtin; refine wpList_app _ rfl _ _ 42 rfl v1.heap.size 26 ti0 _ 1 8 Tryz.underlying42 thi tz0 tz1 tz2 rfl (by decide) _ k1 (List.map encU (gone idL (als.take i) bls)) rfl OWE.out 0 _ 1 1 [encU (l.id)] 26 rfl rfl LE.out (by intro u hu; rw [List.mem_singleton] at hu; subst hu; rfl) (by unfold maxLen; omega) (by omega) (by simp; omega) ?_)
    intro v6 w6 hown6 hgrow6 hor6
    obtain ⟨A6, k6, rfl⟩ := own_slice hown6
    have PX6 : Hid (w6.heap[g]? = some (.cells #[.slice none 0 0, .slice none 0 0, .slice R1 k1 C1, .slice none 0 0] 44 (0, 0))) := hid ((hgrow6.block g (lt_of_block PXE.out) (fun q => by
     obtain ⟨_, cs2, fr2, r⟩ := own_row OWE.out _ q.symm
     rw [PXE.out] at r
     injection r with r
     injection r with _ r _
     exact absurd r (by decide))).trans PXE.out)
    have BT6 : Hid (Bt g v1 w6) := hid ((BT5.out.stay ((Below.refl w4.heap.size w4).alloc (Nat.le_refl _) _)).grown hgrow6 (fun j e => (own_row OWE.out j e).1))
    have HO6 := hid hown6
    have fp := blk_free PX6.out 2
    obtain ⟨r0, r1, r2, r3⟩ := four12 PX6.out
    clear hown6 hgrow6 hor6 zz p0 p1 p2 p3 j0 j1
    go_wp2
    go_roundw
    case rel =>
     have e := pt_set PX6.out (rfl : w6.setCell ⟨g, 2, none⟩ (.slice A6 (k1 + 1) k6) = _)
     exact ⟨i + 1, k1 + 1, A6, k6, by go_num, by omega, by omega, hid (by rw [NW.out, List.length_append, ← HKl.out]; rfl), hid (by rw [NW.out, map_snoc]; exact own_far HO6.out PX6.out (by decide) _), hid e.2.1, hid (BT6.out.set _ _)⟩
    case measure => simp [intOf]; omega
   ·have NW := hid (gone_some X.out hF)
    have CF : Hid (Calls Tryz.prog 22 #[.agg #[.slice bA bls.length bc, .slice bK bms.length bk], .int .u64 (l.id : Int)] w2 (fun e w' => e = .returned (.tuple #[.agg #[.int .u64 (y.id : Int), .string (str y.name)], .bool true]) ∧ Below w2.heap.size w2 w')) := hid ((refList_c (c := bc) (A2 := bK) (n2 := bms.length) (c2 := bk) (n1 := bls.length) (TO.out.sm.l.stay b2) rfl (Nat.le_trans NB1 (by decide)) (l.id)).mono (fun e w' h => ⟨h.1.trans (by unfold T9.findL; rw [show bls.find? (fun z => z.id == l.id) = some y from hF]; rfl), h.2⟩))
    clear hF hx lb b2 e0
    go_wp2_with (go_at_call 22; refine CF.out.mono ?_; rintro e w3 ⟨rfl, hb3⟩; have B3 := hid hb3; have LB3 := hid (blk_keep LB.out hb3); have hz3 := hb3.size; clear hb3)
    obtain ⟨w4, hw4⟩ : ∃ u, w3.alloc (.cells #[.int .u64 (y.id : Int), .string (str y.name)] 51) = u := ⟨_, rfl⟩
    try rw [hw4]
    obtain ⟨yb, b4, z4⟩ := new_two hw4
    have B4 : Hid (Below w2.heap.size w2 w4) := hid (B3.out.trans (b4.mono B3.out.size))
    clear yb b4 z4
    have PX5 := hid (blk_keep (blk_keep PX.out B2.out) B4.out)
    have OW5 := hid (own_below (own_below OW.out B2.out) B4.out)
    have BT5 : Hid (Bt g v1 w4) := hid ((BT.out.stay B2.out).stay B4.out)
    go_roundw
    case rel => exact ⟨i + 1, k1, R1, C1, by go_num, by omega, by omega, hid (by rw [NW.out]; exact HKl.out), hid (by rw [NW.out]; exact OW5.out), PX5, BT5⟩
    case measure => simp [intOf]; omega
  ·obtain rfl : i = als.length := by omega
   have hltz : ¬ (((als.length : Nat) : Int) < ((als.length : Nat) : Int)) := by omega
   have D2 := hid (D1.out.next BT.out PX.out)
   have hk := HKl.out
   have ow := OW.out
   rw [List.take_length] at hk ow
   subst hk
   have HL1 := hid (lies_own (B := 0) ow)
   have HC1 := hid (own_room3 ow)
   obtain ⟨v2, hv⟩ : ∃ u, u = wr := ⟨_, rfl⟩
   subst hv
   clear OW PX HKl hin hki ow
   obtain ⟨x0, x1⟩ := two_cells D2.out.ga
   go_wp2_with fail
   clear x0 x1
   go_loopw [53] (fun s wr => ∃ (i k2 : Nat) (R2 : Option Addr) (C2 : Nat), s = .int .i64 i ∧ i ≤ ams.length ∧ k2 ≤ i ∧ Hid (k2 = (gone idK (ams.take i) bms).length) ∧ Hid (wr.ownsRow v2.heap.size 26 1 (.slice R2 k2 C2) k2 (List.map encU (gone idK (ams.take i) bms))) ∧ Hid (wr.heap[g]? = some (.cells #[.slice none 0 0, .slice none 0 0, .slice R1 (gone idL als bls).length C1, .slice R2 k2 C2] 44 (0, 0))) ∧ Hid (Bt g v2 wr)) (fun s _ => ams.length - (intOf s).toNat)
   case atStart => exact ⟨0, 0, none, 0, rfl, Nat.zero_le _, Nat.le_refl _, hid rfl, hid (World.ownsRow_nil _ _ _ _), hid D2.out.pe, hid (Bt.refl _ _)⟩
   case round =>
    obtain ⟨i, k2, R2, C2, rfl, hin, hki, HKl, OW, PX, BT⟩ := hrel
    by_cases hlt : i < ams.length
    ·have hltz : (i : Int) < ((ams.length : Nat) : Int) := by omega
     have TT := hid (BT.out.ts D2.out.pe D2.out.ta)
     have TO := hid (BT.out.ts D2.out.pe D2.out.tb)
     obtain ⟨ad, ⟨tk, A4, c4⟩, hA, hx, hf, q0, q1, q2, q3, q4, q5, q6⟩ := TT.out.sm.k.at_ (k := i) hlt
     dsimp only at hA hx
     subst hA
     have X := hid hx
     try dsimp only at q0 q1 q2 q3 q4 q5 q6
     have e0 := BT.out.blk D2.out.gb (by have := D2.out.zg; omega)
     obtain ⟨w2, hw2⟩ : ∃ u, wr.alloc (.cells #[.int .u64 (tk.id : Int), .int .u64 (tk.list : Int), .string (str tk.title), .bool tk.done, .float .f64 tk.rank, .float .f64 tk.est, .slice A4 tk.tags.length c4] 56) = u := ⟨_, rfl⟩
     obtain ⟨lb, b2, z2⟩ := new_seven hw2
     have LB := hid lb
     have B2 := hid b2
     obtain ⟨l0, l1, l2, l3, l4, l5, l6⟩ := seven_cells lb
     obtain ⟨o0, o1⟩ := two_cells (blk_keep e0 b2)
     rcases hF : firstN idK bms (tk.id) with _ | y
     ·have NW := hid (gone_none X.out hF)
      have CF : Hid (Calls Tryz.prog 23 #[.agg #[.slice bA bls.length bc, .slice bK bms.length bk], .int .u64 (tk.id : Int)] w2 (fun e w' => ∃ mt mA mc, e = .returned (.tuple #[.agg #[.int .u64 (mt.id : Int), .int .u64 (mt.list : Int), .string (str mt.title), .bool mt.done, .float .f64 mt.rank, .float .f64 mt.est, .slice mA mt.tags.length mc], .bool false]) ∧ mt = ⟨0, 0, [], false, 0, 0, []⟩ ∧ (⟨mt, mA, mc⟩ : MTk).fine w' ∧ Below w2.heap.size w2 w')) := hid ((refTask_c (c := bc) (A := bA) (n1 := bls.length) (c2 := bk) (n2 := bms.length) (TO.out.sm.k.stay b2) rfl (Nat.le_trans NB2 (by decide)) (tk.id)).mono (fun e w' h => by obtain ⟨m, h1, h2, h3, h4⟩ := h; refine ⟨m.t, m.A, m.c, h1.trans ?_, h2.trans ?_, h3, h4⟩ <;> (unfold T9.findK; rw [tks_find, show bms.find? (fun z => z.t.id == tk.id) = none from hF]; rfl)))
      clear hF hx lb b2 e0
      go_upto_region 15 with (go_at_call 23; refine CF.out.mono ?_; rintro e w3 ⟨mt, mA, mc, rfl, hmt, hmf, hb3⟩; have MF := hid hmf; have MT := hid hmt; clear hmf hmt; have B3 := hid hb3; have LB3 := hid (blk_keep LB.out hb3); have hz3 := hb3.size; clear hb3)
      obtain ⟨w4, hw4⟩ : ∃ u, w3.alloc (.cells #[.int .u64 (mt.id : Int), .int .u64 (mt.list : Int), .string (str mt.title), .bool mt.done, .float .f64 mt.rank, .float .f64 mt.est, .slice mA mt.tags.length mc] 56) = u := ⟨_, rfl⟩
      try rw [hw4]
      obtain ⟨yb, b4, z4⟩ := new_seven hw4
      have B4 : Hid (Below w2.heap.size w2 w4) := hid (B3.out.trans (b4.mono B3.out.size))
      clear yb b4 z4
      have LB5 := hid (blk_keep LB.out B4.out)
      have PX5 := hid (blk_keep (blk_keep PX.out B2.out) B4.out)
      have OW5 := hid (own_below (own_below OW.out B2.out) B4.out)
      have BT5 : Hid (Bt g v2 w4) := hid ((BT.out.stay B2.out).stay B4.out)
      obtain ⟨j0, j1, j2, j3, j4, j5, j6⟩ := seven_cells LB5.out
      obtain ⟨p0, p1, p2, p3⟩ := four12 PX5.out
      have OWE := hid (OW5.out.alloc (.cells #[.int .u64 (tk.id : Int)] 26))
      have LE : Hid (Lies (w4.alloc (.cells #[.int .u64 (tk.id : Int)] 26)) 0 26 (some ⟨w4.heap.size, 0, none⟩) [encU (tk.id)]) := hid (Lies.of_blk (heap_alloc_new w4 _))
      have ZZ := hid BT5.out.size
      have zz := ZZ.out
      have PXE := hid (blk_alloc PX5.out (.cells #[.int .u64 (tk.id : Int)] 26))
      obtain ⟨ti0, thi, tz0, tz1, tz2⟩ := info_parts infoU
      go_wp2_with (at_builtin; refine wpList_app _ rfl _ _ 42 rfl v2.heap.size 26 ti0 _ 1 8 Tryz.underlying42 thi tz0 tz1 tz2 rfl (by decide) _ k2 (List.map encU (gone idK (ams.take i) bms)) rfl OWE.out 0 _ 1 1 [encU (tk.id)] 26 rfl rfl LE.out (by intro u hu; rw [List.mem_singleton] at hu; subst hu; rfl) (by unfold maxLen; omega) (by omega) (by simp; omega) ?_)
      intro v6 w6 hown6 hgrow6 hor6
      obtain ⟨A6, k6, rfl⟩ := own_slice hown6
      have PX6 : Hid (w6.heap[g]? = some (.cells #[.slice none 0 0, .slice none 0 0, .slice R1 (gone idL als bls).length C1, .slice R2 k2 C2] 44 (0, 0))) := hid ((hgrow6.block g (lt_of_block PXE.out) (fun q => by
       obtain ⟨_, cs2, fr2, r⟩ := own_row OWE.out _ q.symm
       rw [PXE.out] at r
       injection r with r
       injection r with _ r _
       exact absurd r (by decide))).trans PXE.out)
      have BT6 : Hid (Bt g v2 w6) := hid ((BT5.out.stay ((Below.refl w4.heap.size w4).alloc (Nat.le_refl _) _)).grown hgrow6 (fun j e => (own_row OWE.out j e).1))
      have HO6 := hid hown6
      have fp := blk_free PX6.out 3
      obtain ⟨r0, r1, r2, r3⟩ := four12 PX6.out
      clear hown6 hgrow6 hor6 zz p0 p1 p2 p3 j0 j1 j2 j3 j4 j5 j6
      go_wp2
      go_roundw
      case rel =>
       have e := pt_set PX6.out (rfl : w6.setCell ⟨g, 3, none⟩ (.slice A6 (k2 + 1) k6) = _)
       exact ⟨i + 1, k2 + 1, A6, k6, by go_num, by omega, by omega, hid (by rw [NW.out, List.length_append, ← HKl.out]; rfl), hid (by rw [NW.out, map_snoc]; exact own_far HO6.out PX6.out (by decide) _), hid e.2.1, hid (BT6.out.set _ _)⟩
      case measure => simp [intOf]; omega
     ·have NW := hid (gone_some X.out hF)
      have CF : Hid (Calls Tryz.prog 23 #[.agg #[.slice bA bls.length bc, .slice bK bms.length bk], .int .u64 (tk.id : Int)] w2 (fun e w' => ∃ mt mA mc, e = .returned (.tuple #[.agg #[.int .u64 (mt.id : Int), .int .u64 (mt.list : Int), .string (str mt.title), .bool mt.done, .float .f64 mt.rank, .float .f64 mt.est, .slice mA mt.tags.length mc], .bool true]) ∧ mt = y.t ∧ (⟨mt, mA, mc⟩ : MTk).fine w' ∧ Below w2.heap.size w2 w')) := hid ((refTask_c (c := bc) (A := bA) (n1 := bls.length) (c2 := bk) (n2 := bms.length) (TO.out.sm.k.stay b2) rfl (Nat.le_trans NB2 (by decide)) (tk.id)).mono (fun e w' h => by obtain ⟨m, h1, h2, h3, h4⟩ := h; refine ⟨m.t, m.A, m.c, h1.trans ?_, h2.trans ?_, h3, h4⟩ <;> (unfold T9.findK; rw [tks_find, show bms.find? (fun z => z.t.id == tk.id) = some y from hF]; rfl)))
      clear hF hx lb b2 e0
      go_wp2_with (go_at_call 23; refine CF.out.mono ?_; rintro e w3 ⟨mt, mA, mc, rfl, hmt, hmf, hb3⟩; have MF := hid hmf; have MT := hid hmt; clear hmf hmt; have B3 := hid hb3; have LB3 := hid (blk_keep LB.out hb3); have hz3 := hb3.size; clear hb3)
      obtain ⟨w4, hw4⟩ : ∃ u, w3.alloc (.cells #[.int .u64 (mt.id : Int), .int .u64 (mt.list : Int), .string (str mt.title), .bool mt.done, .float .f64 mt.rank, .float .f64 mt.est, .slice mA mt.tags.length mc] 56) = u := ⟨_, rfl⟩
      try rw [hw4]
      obtain ⟨yb, b4, z4⟩ := new_seven hw4
      have B4 : Hid (Below w2.heap.size w2 w4) := hid (B3.out.trans (b4.mono B3.out.size))
      clear yb b4 z4
      have PX5 := hid (blk_keep (blk_keep PX.out B2.out) B4.out)
      have OW5 := hid (own_below (own_below OW.out B2.out) B4.out)
      have BT5 : Hid (Bt g v2 w4) := hid ((BT.out.stay B2.out).stay B4.out)
      go_roundw
      case rel => exact ⟨i + 1, k2, R2, C2, by go_num, by omega, by omega, hid (by rw [NW.out]; exact HKl.out), hid (by rw [NW.out]; exact OW5.out), PX5, BT5⟩
      case measure => simp [intOf]; omega
    ·obtain rfl : i = ams.length := by omega
     have hltz : ¬ (((ams.length : Nat) : Int) < ((ams.length : Nat) : Int)) := by omega
     have D3 := hid (D2.out.next BT.out PX.out)
     have hk := HKl.out
     have ow := OW.out
     rw [List.take_length] at hk ow
     subst hk
     have HL2 := hid (lies_own (B := 0) ow)
     have HC2 := hid (own_room3 ow)
     have HL1 := hid (BT.out.lies D2.out.pe HL1.out (by decide))
     obtain ⟨v3, hv⟩ : ∃ u, u = wr := ⟨_, rfl⟩
     subst hv
     clear OW PX HKl hin hki ow
     obtain ⟨x0, x1⟩ := two_cells D3.out.gb
     go_wp2_with fail
     clear x0 x1
     go_loopw [77] (fun s wr => ∃ (i k3 : Nat) (R3 : Option Addr) (C3 : Nat), s = .int .i64 i ∧ i ≤ bls.length ∧ k3 ≤ i ∧ Hid (k3 = (news idL smL als (bls.take i)).length) ∧ Hid (wr.ownsRow v3.heap.size 51 2 (.slice R3 k3 C3) k3 (lcells (news idL smL als (bls.take i)))) ∧ Hid (wr.heap[g]? = some (.cells #[.slice R3 k3 C3, .slice none 0 0, .slice R1 (gone idL als bls).length C1, .slice R2 (gone idK ams bms).length C2] 44 (0, 0))) ∧ Hid (Bt g v3 wr)) (fun s _ => bls.length - (intOf s).toNat)
     case atStart => exact ⟨0, 0, none, 0, rfl, Nat.zero_le _, Nat.le_refl _, hid rfl, hid (World.ownsRow_nil _ _ _ _), hid D3.out.pe, hid (Bt.refl _ _)⟩
     case round =>
      obtain ⟨i, k3, R3, C3, rfl, hin, hki, HKl, OW, PX, BT⟩ := hrel
      by_cases hlt : i < bls.length
      ·have hltz : (i : Int) < ((bls.length : Nat) : Int) := by omega
       have TT := hid (BT.out.ts D3.out.pe D3.out.tb)
       have TO := hid (BT.out.ts D3.out.pe D3.out.ta)
       obtain ⟨ad, l, hA, hx, q0, q1⟩ := TT.out.sm.l.at_ (k := i) hlt
       dsimp only at hA hx
       subst hA
       have X := hid hx
       try dsimp only at q0 q1 q2 q3 q4 q5 q6
       have e0 := BT.out.blk D3.out.ga (by have := D3.out.zg; omega)
       obtain ⟨w2, hw2⟩ : ∃ u, wr.alloc (.cells #[.int .u64 (l.id : Int), .string (str l.name)] 51) = u := ⟨_, rfl⟩
       obtain ⟨lb, b2, z2⟩ := new_two hw2
       have LB := hid lb
       have B2 := hid b2
       obtain ⟨l0, l1⟩ := two_cells lb
       obtain ⟨o0, o1⟩ := two_cells (blk_keep e0 b2)
       rcases hF : firstN idL als (l.id) with _ | y
       ·have NW := hid (news_none (sm := smL) X.out hF)
        have CF : Hid (Calls Tryz.prog 22 #[.agg #[.slice aA als.length ac, .slice aK ams.length ak], .int .u64 (l.id : Int)] w2 (fun e w' => e = .returned (.tuple #[.agg #[.int .u64 0, .string ⟨#[]⟩], .bool false]) ∧ Below w2.heap.size w2 w')) := hid ((refList_c (c := ac) (A2 := aK) (n2 := ams.length) (c2 := ak) (n1 := als.length) (TO.out.sm.l.stay b2) rfl (Nat.le_trans NA1 (by decide)) (l.id)).mono (fun e w' h => ⟨h.1.trans (by unfold T9.findL; rw [show als.find? (fun z => z.id == l.id) = none from hF]; rfl), h.2⟩))
        clear hF hx lb b2 e0
        go_upto_region 22 with (go_at_call 22; refine CF.out.mono ?_; rintro e w3 ⟨rfl, hb3⟩; have B3 := hid hb3; have LB3 := hid (blk_keep LB.out hb3); have hz3 := hb3.size; clear hb3)
        obtain ⟨w4, hw4⟩ : ∃ u, w3.alloc (.cells #[.int .u64 0, .string ⟨#[]⟩] 51) = u := ⟨_, rfl⟩
        try rw [hw4]
        obtain ⟨yb, b4, z4⟩ := new_two hw4
        have B4 : Hid (Below w2.heap.size w2 w4) := hid (B3.out.trans (b4.mono B3.out.size))
        clear yb b4 z4
        have LB5 := hid (blk_keep LB.out B4.out)
        have PX5 := hid (blk_keep (blk_keep PX.out B2.out) B4.out)
        have OW5 := hid (own_below (own_below OW.out B2.out) B4.out)
        have BT5 : Hid (Bt g v3 w4) := hid ((BT.out.stay B2.out).stay B4.out)
        obtain ⟨j0, j1⟩ := two_cells LB5.out
        obtain ⟨p0, p1, p2, p3⟩ := four12 PX5.out
        have hbs := buildSlL9 l w4
        have OWE := hid (OW5.out.alloc (.cells #[.int .u64 (l.id : Int), .string (str l.name)] 51))
        have LE : Hid (Lies (w4.alloc (.cells #[.int .u64 (l.id : Int), .string (str l.name)] 51)) 0 51 (some ⟨w4.heap.size, 0, none⟩) (encL l)) := hid (Lies.of_blk (heap_alloc_new w4 _))
        have ZZ := hid BT5.out.size
        have zz := ZZ.out
        have PXE := hid (blk_alloc PX5.out (.cells #[.int .u64 (l.id : Int), .string (str l.name)] 51))
        obtain ⟨ti0, thi, tz0, tz1, tz2⟩ := info_parts Tryz.infoLi9
        go_wp2_with (at_builtin; refine wpList_app _ rfl _ _ 22 rfl v3.heap.size 51 ti0 _ 2 24 Tryz.underlying22 thi tz0 tz1 tz2 rfl (by decide) _ k3 (lcells (news idL smL als (bls.take i))) rfl OWE.out 0 _ 1 1 (encL l) 51 rfl rfl LE.out (encL_one _) (by unfold maxLen; omega) (by omega) (by simp; omega) ?_)
        intro v6 w6 hown6 hgrow6 hor6
        obtain ⟨A6, k6, rfl⟩ := own_slice hown6
        have PX6 : Hid (w6.heap[g]? = some (.cells #[.slice R3 k3 C3, .slice none 0 0, .slice R1 (gone idL als bls).length C1, .slice R2 (gone idK ams bms).length C2] 44 (0, 0))) := hid ((hgrow6.block g (lt_of_block PXE.out) (fun q => by
         obtain ⟨_, cs2, fr2, r⟩ := own_row OWE.out _ q.symm
         rw [PXE.out] at r
         injection r with r
         injection r with _ r _
         exact absurd r (by decide))).trans PXE.out)
        have BT6 : Hid (Bt g v3 w6) := hid ((BT5.out.stay ((Below.refl w4.heap.size w4).alloc (Nat.le_refl _) _)).grown hgrow6 (fun j e => (own_row OWE.out j e).1))
        have HO6 := hid hown6
        have fp := blk_free PX6.out 0
        obtain ⟨r0, r1, r2, r3⟩ := four12 PX6.out
        clear hown6 hgrow6 hor6 zz p0 p1 p2 p3 j0 j1 hbs
        go_wp2
        go_roundw
        case rel =>
         have e := pt_set PX6.out (rfl : w6.setCell ⟨g, 0, none⟩ (.slice A6 (k3 + 1) k6) = _)
         exact ⟨i + 1, k3 + 1, A6, k6, by go_num, by omega, by omega, hid (by rw [NW.out, List.length_append, ← HKl.out]; rfl), hid (by rw [NW.out, lcells_snoc]; exact own_far HO6.out PX6.out (by decide) _), hid e.2.1, hid (BT6.out.set _ _)⟩
        case measure => simp [intOf]; omega
       ·have HF : Hid (firstN idL als (idL l) = some y) := hid hF
        have CF : Hid (Calls Tryz.prog 22 #[.agg #[.slice aA als.length ac, .slice aK ams.length ak], .int .u64 (l.id : Int)] w2 (fun e w' => e = .returned (.tuple #[.agg #[.int .u64 (y.id : Int), .string (str y.name)], .bool true]) ∧ Below w2.heap.size w2 w')) := hid ((refList_c (c := ac) (A2 := aK) (n2 := ams.length) (c2 := ak) (n1 := als.length) (TO.out.sm.l.stay b2) rfl (Nat.le_trans NA1 (by decide)) (l.id)).mono (fun e w' h => ⟨h.1.trans (by unfold T9.findL; rw [show als.find? (fun z => z.id == l.id) = some y from hF]; rfl), h.2⟩))
        clear hF hx lb b2 e0
        go_upto_region 21 with (go_at_call 22; refine CF.out.mono ?_; rintro e w3 ⟨rfl, hb3⟩; have B3 := hid hb3; have LB3 := hid (blk_keep LB.out hb3); have hz3 := hb3.size; clear hb3)
        obtain ⟨w4, hw4⟩ : ∃ u, w3.alloc (.cells #[.int .u64 (y.id : Int), .string (str y.name)] 51) = u := ⟨_, rfl⟩
        try rw [hw4]
        obtain ⟨yb, b4, z4⟩ := new_two hw4
        have B4 : Hid (Below w2.heap.size w2 w4) := hid (B3.out.trans (b4.mono B3.out.size))
        obtain ⟨y0, y1⟩ := two_cells yb
        obtain ⟨m0, m1⟩ := two_cells (blk_keep LB3.out b4)
        clear yb b4 z4
        by_cases eq : y = l
        ·subst eq
         have NW := hid (news_same (sm := smL) X.out HF.out (by unfold smL; exact decide_eq_true rfl))
         go_wp2
         have PX5 := hid (blk_keep (blk_keep PX.out B2.out) B4.out)
         have OW5 := hid (own_below (own_below OW.out B2.out) B4.out)
         have BT5 : Hid (Bt g v3 w4) := hid ((BT.out.stay B2.out).stay B4.out)
         go_roundw
         case rel => exact ⟨i + 1, k3, R3, C3, by go_num, by omega, by omega, hid (by rw [NW.out]; exact HKl.out), hid (by rw [NW.out]; exact OW5.out), PX5, BT5⟩
         case measure => simp [intOf]; omega
        ·have NW := hid (news_diff (sm := smL) X.out HF.out (by unfold smL; exact decide_eq_false eq))
         rcases li_ne eq with e1 | ⟨e1, e2⟩
         all_goals
          clear eq
          go_upto_region 22 with fail
          clear e1
          try clear e2
          have LB5 := hid (blk_keep LB.out B4.out)
          have PX5 := hid (blk_keep (blk_keep PX.out B2.out) B4.out)
          have OW5 := hid (own_below (own_below OW.out B2.out) B4.out)
          have BT5 : Hid (Bt g v3 w4) := hid ((BT.out.stay B2.out).stay B4.out)
          obtain ⟨j0, j1⟩ := two_cells LB5.out
          obtain ⟨p0, p1, p2, p3⟩ := four12 PX5.out
          have hbs := buildSlL9 l w4
          have OWE := hid (OW5.out.alloc (.cells #[.int .u64 (l.id : Int), .string (str l.name)] 51))
          have LE : Hid (Lies (w4.alloc (.cells #[.int .u64 (l.id : Int), .string (str l.name)] 51)) 0 51 (some ⟨w4.heap.size, 0, none⟩) (encL l)) := hid (Lies.of_blk (heap_alloc_new w4 _))
          have ZZ := hid BT5.out.size
          have zz := ZZ.out
          have PXE := hid (blk_alloc PX5.out (.cells #[.int .u64 (l.id : Int), .string (str l.name)] 51))
          obtain ⟨ti0, thi, tz0, tz1, tz2⟩ := info_parts Tryz.infoLi9
          go_wp2_with (at_builtin; refine wpList_app _ rfl _ _ 22 rfl v3.heap.size 51 ti0 _ 2 24 Tryz.underlying22 thi tz0 tz1 tz2 rfl (by decide) _ k3 (lcells (news idL smL als (bls.take i))) rfl OWE.out 0 _ 1 1 (encL l) 51 rfl rfl LE.out (encL_one _) (by unfold maxLen; omega) (by omega) (by simp; omega) ?_)
          intro v6 w6 hown6 hgrow6 hor6
          obtain ⟨A6, k6, rfl⟩ := own_slice hown6
          have PX6 : Hid (w6.heap[g]? = some (.cells #[.slice R3 k3 C3, .slice none 0 0, .slice R1 (gone idL als bls).length C1, .slice R2 (gone idK ams bms).length C2] 44 (0, 0))) := hid ((hgrow6.block g (lt_of_block PXE.out) (fun q => by
           obtain ⟨_, cs2, fr2, r⟩ := own_row OWE.out _ q.symm
           rw [PXE.out] at r
           injection r with r
           injection r with _ r _
           exact absurd r (by decide))).trans PXE.out)
          have BT6 : Hid (Bt g v3 w6) := hid ((BT5.out.stay ((Below.refl w4.heap.size w4).alloc (Nat.le_refl _) _)).grown hgrow6 (fun j e => (own_row OWE.out j e).1))
          have HO6 := hid hown6
          have fp := blk_free PX6.out 0
          obtain ⟨r0, r1, r2, r3⟩ := four12 PX6.out
          clear hown6 hgrow6 hor6 zz p0 p1 p2 p3 j0 j1 hbs
          go_wp2
          go_roundw
          case rel =>
           have e := pt_set PX6.out (rfl : w6.setCell ⟨g, 0, none⟩ (.slice A6 (k3 + 1) k6) = _)
           exact ⟨i + 1, k3 + 1, A6, k6, by go_num, by omega, by omega, hid (by rw [NW.out, List.length_append, ← HKl.out]; rfl), hid (by rw [NW.out, lcells_snoc]; exact own_far HO6.out PX6.out (by decide) _), hid e.2.1, hid (BT6.out.set _ _)⟩
          case measure => simp [intOf]; omega
      ·obtain rfl : i = bls.length := by omega
       have hltz : ¬ (((bls.length : Nat) : Int) < ((bls.length : Nat) : Int)) := by omega
       have D4 := hid (D3.out.next BT.out PX.out)
       have hk := HKl.out
       have ow := OW.out
       rw [List.take_length] at hk ow
       subst hk
       have HL3 := hid (lies_own (B := 0) ow)
       have HC3 := hid (own_room3 ow)
       have HL1 := hid (BT.out.lies D3.out.pe HL1.out (by decide))
       have HL2 := hid (BT.out.lies D3.out.pe HL2.out (by decide))
       obtain ⟨v4, hv⟩ : ∃ u, u = wr := ⟨_, rfl⟩
       subst hv
       clear OW PX HKl hin hki ow
       obtain ⟨x0, x1⟩ := two_cells D4.out.gb
       go_wp2_with fail
       clear x0 x1
       go_loopw [105] (fun s wr => ∃ (i k4 : Nat) (R4 : Option Addr) (C4 : Nat), s = .int .i64 i ∧ i ≤ bms.length ∧ k4 ≤ i ∧ Hid (k4 = (news idK smK ams (bms.take i)).length) ∧ Hid (wr.ownsRow v4.heap.size 56 7 (.slice R4 k4 C4) k4 (tkcells (news idK smK ams (bms.take i)))) ∧ Hid (wr.heap[g]? = some (.cells #[.slice R3 (news idL smL als bls).length C3, .slice R4 k4 C4, .slice R1 (gone idL als bls).length C1, .slice R2 (gone idK ams bms).length C2] 44 (0, 0))) ∧ Hid (Bt g v4 wr)) (fun s _ => bms.length - (intOf s).toNat)
       case atStart => exact ⟨0, 0, none, 0, rfl, Nat.zero_le _, Nat.le_refl _, hid rfl, hid (World.ownsRow_nil _ _ _ _), hid D4.out.pe, hid (Bt.refl _ _)⟩
       case round =>
        obtain ⟨i, k4, R4, C4, rfl, hin, hki, HKl, OW, PX, BT⟩ := hrel
        by_cases hlt : i < bms.length
        ·have hltz : (i : Int) < ((bms.length : Nat) : Int) := by omega
         have TT := hid (BT.out.ts D4.out.pe D4.out.tb)
         have TO := hid (BT.out.ts D4.out.pe D4.out.ta)
         obtain ⟨ad, ⟨tk, A4, c4⟩, hA, hx, hf, q0, q1, q2, q3, q4, q5, q6⟩ := TT.out.sm.k.at_ (k := i) hlt
         dsimp only at hA hx
         subst hA
         have X := hid hx
         try dsimp only at q0 q1 q2 q3 q4 q5 q6
         have e0 := BT.out.blk D4.out.ga (by have := D4.out.zg; omega)
         obtain ⟨w2, hw2⟩ : ∃ u, wr.alloc (.cells #[.int .u64 (tk.id : Int), .int .u64 (tk.list : Int), .string (str tk.title), .bool tk.done, .float .f64 tk.rank, .float .f64 tk.est, .slice A4 tk.tags.length c4] 56) = u := ⟨_, rfl⟩
         obtain ⟨lb, b2, z2⟩ := new_seven hw2
         have LB := hid lb
         have B2 := hid b2
         obtain ⟨l0, l1, l2, l3, l4, l5, l6⟩ := seven_cells lb
         obtain ⟨o0, o1⟩ := two_cells (blk_keep e0 b2)
         rcases hF : firstN idK ams (tk.id) with _ | y
         ·have NW := hid (news_none (sm := smK) X.out hF)
          have CF : Hid (Calls Tryz.prog 23 #[.agg #[.slice aA als.length ac, .slice aK ams.length ak], .int .u64 (tk.id : Int)] w2 (fun e w' => ∃ mt mA mc, e = .returned (.tuple #[.agg #[.int .u64 (mt.id : Int), .int .u64 (mt.list : Int), .string (str mt.title), .bool mt.done, .float .f64 mt.rank, .float .f64 mt.est, .slice mA mt.tags.length mc], .bool false]) ∧ mt = ⟨0, 0, [], false, 0, 0, []⟩ ∧ (⟨mt, mA, mc⟩ : MTk).fine w' ∧ Below w2.heap.size w2 w')) := hid ((refTask_c (c := ac) (A := aA) (n1 := als.length) (c2 := ak) (n2 := ams.length) (TO.out.sm.k.stay b2) rfl (Nat.le_trans NA2 (by decide)) (tk.id)).mono (fun e w' h => by obtain ⟨m, h1, h2, h3, h4⟩ := h; refine ⟨m.t, m.A, m.c, h1.trans ?_, h2.trans ?_, h3, h4⟩ <;> (unfold T9.findK; rw [tks_find, show ams.find? (fun z => z.t.id == tk.id) = none from hF]; rfl)))
          clear hF hx lb b2 e0
          go_upto_region 29 with (go_at_call 23; refine CF.out.mono ?_; rintro e w3 ⟨mt, mA, mc, rfl, hmt, hmf, hb3⟩; have MF := hid hmf; have MT := hid hmt; clear hmf hmt; have B3 := hid hb3; have LB3 := hid (blk_keep LB.out hb3); have hz3 := hb3.size; clear hb3)
          obtain ⟨w4, hw4⟩ : ∃ u, w3.alloc (.cells #[.int .u64 (mt.id : Int), .int .u64 (mt.list : Int), .string (str mt.title), .bool mt.done, .float .f64 mt.rank, .float .f64 mt.est, .slice mA mt.tags.length mc] 56) = u := ⟨_, rfl⟩
          try rw [hw4]
          obtain ⟨yb, b4, z4⟩ := new_seven hw4
          have B4 : Hid (Below w2.heap.size w2 w4) := hid (B3.out.trans (b4.mono B3.out.size))
          clear yb b4 z4
          have LB5 := hid (blk_keep LB.out B4.out)
          have PX5 := hid (blk_keep (blk_keep PX.out B2.out) B4.out)
          have OW5 := hid (own_below (own_below OW.out B2.out) B4.out)
          have BT5 : Hid (Bt g v4 w4) := hid ((BT.out.stay B2.out).stay B4.out)
          obtain ⟨j0, j1, j2, j3, j4, j5, j6⟩ := seven_cells LB5.out
          obtain ⟨p0, p1, p2, p3⟩ := four12 PX5.out
          have hbs := buildSlK9 ⟨tk, A4, c4⟩ w4; unfold encK at hbs; dsimp only at hbs
          have OWE := hid (OW5.out.alloc (.cells #[.int .u64 (tk.id : Int), .int .u64 (tk.list : Int), .string (str tk.title), .bool tk.done, .float .f64 tk.rank, .float .f64 tk.est, .slice A4 tk.tags.length c4] 56))
          have LE : Hid (Lies (w4.alloc (.cells #[.int .u64 (tk.id : Int), .int .u64 (tk.list : Int), .string (str tk.title), .bool tk.done, .float .f64 tk.rank, .float .f64 tk.est, .slice A4 tk.tags.length c4] 56)) 0 56 (some ⟨w4.heap.size, 0, none⟩) (encK (⟨tk, A4, c4⟩ : MTk))) := hid (Lies.of_blk (heap_alloc_new w4 _))
          have ZZ := hid BT5.out.size
          have zz := ZZ.out
          have PXE := hid (blk_alloc PX5.out (.cells #[.int .u64 (tk.id : Int), .int .u64 (tk.list : Int), .string (str tk.title), .bool tk.done, .float .f64 tk.rank, .float .f64 tk.est, .slice A4 tk.tags.length c4] 56))
          obtain ⟨ti0, thi, tz0, tz1, tz2⟩ := info_parts Tryz.infoTk9
          go_wp2_with (at_builtin; refine wpList_app _ rfl _ _ 23 rfl v4.heap.size 56 ti0 _ 7 80 Tryz.underlying23 thi tz0 tz1 tz2 rfl (by decide) _ k4 (tkcells (news idK smK ams (bms.take i))) rfl OWE.out 0 _ 1 1 (encK (⟨tk, A4, c4⟩ : MTk)) 56 rfl rfl LE.out (encK_one _) (by unfold maxLen; omega) (by omega) (by simp; omega) ?_)
          intro v6 w6 hown6 hgrow6 hor6
          obtain ⟨A6, k6, rfl⟩ := own_slice hown6
          have PX6 : Hid (w6.heap[g]? = some (.cells #[.slice R3 (news idL smL als bls).length C3, .slice R4 k4 C4, .slice R1 (gone idL als bls).length C1, .slice R2 (gone idK ams bms).length C2] 44 (0, 0))) := hid ((hgrow6.block g (lt_of_block PXE.out) (fun q => by
           obtain ⟨_, cs2, fr2, r⟩ := own_row OWE.out _ q.symm
           rw [PXE.out] at r
           injection r with r
           injection r with _ r _
           exact absurd r (by decide))).trans PXE.out)
          have BT6 : Hid (Bt g v4 w6) := hid ((BT5.out.stay ((Below.refl w4.heap.size w4).alloc (Nat.le_refl _) _)).grown hgrow6 (fun j e => (own_row OWE.out j e).1))
          have HO6 := hid hown6
          have fp := blk_free PX6.out 1
          obtain ⟨r0, r1, r2, r3⟩ := four12 PX6.out
          clear hown6 hgrow6 hor6 zz p0 p1 p2 p3 j0 j1 j2 j3 j4 j5 j6 hbs
          go_wp2
          go_roundw
          case rel =>
           have e := pt_set PX6.out (rfl : w6.setCell ⟨g, 1, none⟩ (.slice A6 (k4 + 1) k6) = _)
           exact ⟨i + 1, k4 + 1, A6, k6, by go_num, by omega, by omega, hid (by rw [NW.out, List.length_append, ← HKl.out]; rfl), hid (by rw [NW.out, tkcells_snoc]; exact own_far HO6.out PX6.out (by decide) _), hid e.2.1, hid (BT6.out.set _ _)⟩
          case measure => simp [intOf]; omega
         ·have HF : Hid (firstN idK ams (idK (⟨tk, A4, c4⟩ : MTk)) = some y) := hid hF
          have YM : Hid (y ∈ ams) := hid (List.mem_of_find?_eq_some hF)
          have CF : Hid (Calls Tryz.prog 23 #[.agg #[.slice aA als.length ac, .slice aK ams.length ak], .int .u64 (tk.id : Int)] w2 (fun e w' => ∃ mt mA mc, e = .returned (.tuple #[.agg #[.int .u64 (mt.id : Int), .int .u64 (mt.list : Int), .string (str mt.title), .bool mt.done, .float .f64 mt.rank, .float .f64 mt.est, .slice mA mt.tags.length mc], .bool true]) ∧ mt = y.t ∧ (⟨mt, mA, mc⟩ : MTk).fine w' ∧ Below w2.heap.size w2 w')) := hid ((refTask_c (c := ac) (A := aA) (n1 := als.length) (c2 := ak) (n2 := ams.length) (TO.out.sm.k.stay b2) rfl (Nat.le_trans NA2 (by decide)) (tk.id)).mono (fun e w' h => by obtain ⟨m, h1, h2, h3, h4⟩ := h; refine ⟨m.t, m.A, m.c, h1.trans ?_, h2.trans ?_, h3, h4⟩ <;> (unfold T9.findK; rw [tks_find, show ams.find? (fun z => z.t.id == tk.id) = some y from hF]; rfl)))
          clear hF hx lb b2 e0
          go_upto_region 28 with (go_at_call 23; refine CF.out.mono ?_; rintro e w3 ⟨mt, mA, mc, rfl, hmt, hmf, hb3⟩; have MF := hid hmf; have MT := hid hmt; clear hmf hmt; have B3 := hid hb3; have LB3 := hid (blk_keep LB.out hb3); have hz3 := hb3.size; clear hb3)
          obtain ⟨w4, hw4⟩ : ∃ u, w3.alloc (.cells #[.int .u64 (mt.id : Int), .int .u64 (mt.list : Int), .string (str mt.title), .bool mt.done, .float .f64 mt.rank, .float .f64 mt.est, .slice mA mt.tags.length mc] 56) = u := ⟨_, rfl⟩
          try rw [hw4]
          obtain ⟨yb, b4, z4⟩ := new_seven hw4
          have B4 : Hid (Below w2.heap.size w2 w4) := hid (B3.out.trans (b4.mono B3.out.size))
          obtain ⟨y0, y1, y2, y3, y4, y5, y6⟩ := seven_cells yb
          obtain ⟨m0, m1, m2, m3, m4, m5, m6⟩ := seven_cells (blk_keep LB3.out b4)
          have MF4 := hid (MF.out.stay b4)
          clear yb b4 z4
          have CS : Hid (Calls Tryz.prog 51 #[.agg #[.int .u64 (mt.id : Int), .int .u64 (mt.list : Int), .string (str mt.title), .bool mt.done, .float .f64 mt.rank, .float .f64 mt.est, .slice mA mt.tags.length mc], .agg #[.int .u64 (tk.id : Int), .int .u64 (tk.list : Int), .string (str tk.title), .bool tk.done, .float .f64 tk.rank, .float .f64 tk.est, .slice A4 tk.tags.length c4]] w4 fun e w' => e = .returned (.bool (T9.same1 mt tk)) ∧ Below w4.heap.size w4 w') := hid (refSameTask_c (a := ⟨mt, mA, mc⟩) (b := (⟨tk, A4, c4⟩ : MTk)) MF4.out ((TT.out.sm.k.2 _ (List.mem_of_getElem? X.out)).stay (B2.out.trans (B4.out.mono B2.out.size))) (by rw [MT.out]; exact (KA.out y YM.out).1) (KB.out _ (List.mem_of_getElem? X.out)).1 (by rw [MT.out]; exact (KA.out y YM.out).2) (KB.out _ (List.mem_of_getElem? X.out)).2)
          rcases hS : T9.same1 mt tk with _ | _
          ·rw [hS] at CS
           have NW := hid (news_diff (sm := smK) X.out HF.out (by unfold smK; rw [← MT.out]; exact hS))
           clear hS
           go_upto_region 29 with (go_at_call 51; refine CS.out.mono ?_; rintro e w5 ⟨rfl, hb5⟩; have B5 : Hid (Below w2.heap.size w2 w5) := hid (B4.out.trans (hb5.mono B4.out.size)); clear hb5)
           have LB5 := hid (blk_keep LB.out B5.out)
           have PX5 := hid (blk_keep (blk_keep PX.out B2.out) B5.out)
           have OW5 := hid (own_below (own_below OW.out B2.out) B5.out)
           have BT5 : Hid (Bt g v4 w5) := hid ((BT.out.stay B2.out).stay B5.out)
           obtain ⟨j0, j1, j2, j3, j4, j5, j6⟩ := seven_cells LB5.out
           obtain ⟨p0, p1, p2, p3⟩ := four12 PX5.out
           have hbs := buildSlK9 ⟨tk, A4, c4⟩ w5; unfold encK at hbs; dsimp only at hbs
           have OWE := hid (OW5.out.alloc (.cells #[.int .u64 (tk.id : Int), .int .u64 (tk.list : Int), .string (str tk.title), .bool tk.done, .float .f64 tk.rank, .float .f64 tk.est, .slice A4 tk.tags.length c4] 56))
           have LE : Hid (Lies (w5.alloc (.cells #[.int .u64 (tk.id : Int), .int .u64 (tk.list : Int), .string (str tk.title), .bool tk.done, .float .f64 tk.rank, .float .f64 tk.est, .slice A4 tk.tags.length c4] 56)) 0 56 (some ⟨w5.heap.size, 0, none⟩) (encK (⟨tk, A4, c4⟩ : MTk))) := hid (Lies.of_blk (heap_alloc_new w5 _))
           have ZZ := hid BT5.out.size
           have zz := ZZ.out
           have PXE := hid (blk_alloc PX5.out (.cells #[.int .u64 (tk.id : Int), .int .u64 (tk.list : Int), .string (str tk.title), .bool tk.done, .float .f64 tk.rank, .float .f64 tk.est, .slice A4 tk.tags.length c4] 56))
           obtain ⟨ti0, thi, tz0, tz1, tz2⟩ := info_parts Tryz.infoTk9
           go_wp2_with (at_builtin; refine wpList_app _ rfl _ _ 23 rfl v4.heap.size 56 ti0 _ 7 80 Tryz.underlying23 thi tz0 tz1 tz2 rfl (by decide) _ k4 (tkcells (news idK smK ams (bms.take i))) rfl OWE.out 0 _ 1 1 (encK (⟨tk, A4, c4⟩ : MTk)) 56 rfl rfl LE.out (encK_one _) (by unfold maxLen; omega) (by omega) (by simp; omega) ?_)
           intro v6 w6 hown6 hgrow6 hor6
           obtain ⟨A6, k6, rfl⟩ := own_slice hown6
           have PX6 : Hid (w6.heap[g]? = some (.cells #[.slice R3 (news idL smL als bls).length C3, .slice R4 k4 C4, .slice R1 (gone idL als bls).length C1, .slice R2 (gone idK ams bms).length C2] 44 (0, 0))) := hid ((hgrow6.block g (lt_of_block PXE.out) (fun q => by
            obtain ⟨_, cs2, fr2, r⟩ := own_row OWE.out _ q.symm
            rw [PXE.out] at r
            injection r with r
            injection r with _ r _
            exact absurd r (by decide))).trans PXE.out)
           have BT6 : Hid (Bt g v4 w6) := hid ((BT5.out.stay ((Below.refl w5.heap.size w5).alloc (Nat.le_refl _) _)).grown hgrow6 (fun j e => (own_row OWE.out j e).1))
           have HO6 := hid hown6
           have fp := blk_free PX6.out 1
           obtain ⟨r0, r1, r2, r3⟩ := four12 PX6.out
           clear hown6 hgrow6 hor6 zz p0 p1 p2 p3 j0 j1 j2 j3 j4 j5 j6 hbs
           go_wp2
           go_roundw
           case rel =>
            have e := pt_set PX6.out (rfl : w6.setCell ⟨g, 1, none⟩ (.slice A6 (k4 + 1) k6) = _)
            exact ⟨i + 1, k4 + 1, A6, k6, by go_num, by omega, by omega, hid (by rw [NW.out, List.length_append, ← HKl.out]; rfl), hid (by rw [NW.out, tkcells_snoc]; exact own_far HO6.out PX6.out (by decide) _), hid e.2.1, hid (BT6.out.set _ _)⟩
           case measure => simp [intOf]; omega
          ·rw [hS] at CS
           have NW := hid (news_same (sm := smK) X.out HF.out (by unfold smK; rw [← MT.out]; exact hS))
           clear hS
           go_wp2_with (go_at_call 51; refine CS.out.mono ?_; rintro e w5 ⟨rfl, hb5⟩; have B5 : Hid (Below w2.heap.size w2 w5) := hid (B4.out.trans (hb5.mono B4.out.size)); clear hb5)
           have PX5 := hid (blk_keep (blk_keep PX.out B2.out) B5.out)
           have OW5 := hid (own_below (own_below OW.out B2.out) B5.out)
           have BT5 : Hid (Bt g v4 w5) := hid ((BT.out.stay B2.out).stay B5.out)
           go_roundw
           case rel => exact ⟨i + 1, k4, R4, C4, by go_num, by omega, by omega, hid (by rw [NW.out]; exact HKl.out), hid (by rw [NW.out]; exact OW5.out), PX5, BT5⟩
           case measure => simp [intOf]; omega
        ·obtain rfl : i = bms.length := by omega
         have hltz : ¬ (((bms.length : Nat) : Int) < ((bms.length : Nat) : Int)) := by omega
         have D5 := hid (D4.out.next BT.out PX.out)
         have hk := HKl.out
         have ow := OW.out
         rw [List.take_length] at hk ow
         subst hk
         have HL4 := hid (lies_own (B := 0) ow)
         have HC4 := hid (own_room3 ow)
         have HL1 := hid (BT.out.lies D4.out.pe HL1.out (by decide))
         have HL2 := hid (BT.out.lies D4.out.pe HL2.out (by decide))
         have HL3 := hid (BT.out.lies D4.out.pe HL3.out (by decide))
         obtain ⟨v5, hv⟩ : ∃ u, u = wr := ⟨_, rfl⟩
         subst hv
         clear OW PX HKl hin hki ow
         obtain ⟨nl, hnl⟩ : ∃ n, (news idL smL als bls).length = n := ⟨_, rfl⟩
         obtain ⟨nk, hnk⟩ : ∃ n, (news idK smK ams bms).length = n := ⟨_, rfl⟩
         obtain ⟨ngl, hngl⟩ : ∃ n, (gone idL als bls).length = n := ⟨_, rfl⟩
         obtain ⟨ngk, hngk⟩ : ∃ n, (gone idK ams bms).length = n := ⟨_, rfl⟩
         have PE5 := D5.out.pe
         rw [hnl, hnk, hngl, hngk] at PE5
         obtain ⟨p0, p1, p2, p3⟩ := four12 PE5
         have e0 := blk_free D5.out.pc 0
         have e1 := blk_free D5.out.pc 1
         have e2 := blk_free D5.out.pc 2
         have e3 := blk_free D5.out.pc 3
         obtain ⟨o0, o1, o2, o3⟩ := four12 D5.out.pc
         obtain ⟨vz, hvz⟩ : ∃ u, (((v5.setCell ⟨w.heap.size + 2, 0, none⟩ (.slice R3 nl C3)).setCell ⟨w.heap.size + 2, 1, none⟩ (.slice R4 nk C4)).setCell ⟨w.heap.size + 2, 2, none⟩ (.slice R1 ngl C1)).setCell ⟨w.heap.size + 2, 3, none⟩ (.slice R2 ngk C2) = u := ⟨_, rfl⟩
         have KZ : Hid (vz.heap[w.heap.size + 2]? = some (.cells #[.slice R3 nl C3, .slice R4 nk C4, .slice R1 ngl C1, .slice R2 ngk C2] 44 (0, 0)) ∧ Tch 0 [44] v5 vz ∧ Below w.heap.size v5 vz) := hid (by
          obtain ⟨t1, g1, _, q1⟩ := pt_set D5.out.pc (rfl : v5.setCell ⟨w.heap.size + 2, 0, none⟩ (.slice R3 nl C3) = _)
          obtain ⟨t2, g2, _, q2⟩ := pt_set (i := 1) (x := .slice R4 nk C4) g1 rfl
          obtain ⟨t3, g3, _, q3⟩ := pt_set (i := 2) (x := .slice R1 ngl C1) g2 rfl
          obtain ⟨t4, g4, _, q4⟩ := pt_set (i := 3) (x := .slice R2 ngk C2) g3 hvz
          exact ⟨g4, ((t1.trans t2).trans t3).trans t4, (((q1 w.heap.size (by omega)).trans (q2 w.heap.size (by omega))).trans (q3 w.heap.size (by omega))).trans (q4 w.heap.size (by omega))⟩)
         have HNL := hid hnl
         have HNK := hid hnk
         have HGL := hid hngl
         have HGK := hid hngk
         obtain ⟨z0, z1, z2, z3⟩ := four12 KZ.out.1
         clear hnl hnk hngl hngk PE5
         go_wp2
         try rw [hvz]
         refine bodyPost_ret (v := .agg #[.slice R3 nl C3, .slice R4 nk C4, .slice R1 ngl C1, .slice R2 ngk C2]) (by simp [results, Tryz.results18, go_sem, z0, z1, z2, z3]) rfl ?_
         have TZ := KZ.out.2.1
         refine ⟨⟨news idL smL als bls, R3, C3, news idK smK ams bms, R4, C4, gone idL als bls, R1, C1, gone idK ams bms, R2, C2⟩, by rw [← HNL.out, ← HNK.out, ← HGL.out, ← HGK.out]; rfl, ⟨HL3.out.tch TZ (by decide), HL4.out.tch TZ (by decide), fun q hq => ?_, HL1.out.tch TZ (by decide), HL2.out.tch TZ (by decide), HC3.out, HC4.out, HC1.out, HC2.out⟩, ?_, ?_, ?_, ?_, D5.out.bw.trans KZ.out.2.2⟩
         ·exact (D5.out.tb.tch TZ (by decide) (by decide) (by decide)).t q (news_mem hq)
         ·show news idL smL als bls = _
          rw [E1.out, E3.out]
          rfl
         ·show tks (news idK smK ams bms) = _
          refine (news_map MTk.t (g := idK) (g' := T9.Tk.id) (sm := smK) (sm' := T9.same1) (fun _ => rfl) (fun _ _ => rfl) ams bms).trans ?_
          show news _ _ (tks ams) (tks bms) = _
          rw [E2.out, E4.out]
          rfl
         ·show gone idL als bls = _
          rw [E1.out, E3.out]
          rfl
         ·show gone idK ams bms = _
          refine (gone_map MTk.t (g := idK) (g' := T9.Tk.id) (fun _ => rfl) ams bms).trans ?_
          show gone _ (tks ams) (tks bms) = _
          rw [E2.out, E4.out]
          rfl
end
end
end Go.Proofs.YtpphmbfghfmdlaaGreat
