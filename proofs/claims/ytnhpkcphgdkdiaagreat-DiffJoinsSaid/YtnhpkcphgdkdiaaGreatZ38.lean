import Derived.Test.YtnhpkcphgdkdiaaGreatZ29
import Derived.Test.YtnhpkcphgdkdiaaGreatZ36
import Derived.Test.YtnhpkcphgdkdiaaGreatZ37
import Derived.Test.YtnhpkcphgdkdiaaGreatZ33
namespace Go.Proofs.YtnhpkcphgdkdiaaGreat
set_option linter.unusedSimpArgs false
set_option maxRecDepth 100000
section
set_option linter.unusedSimpArgs false
section
open Go.RowKit Go.Lib Go.Shelf
theorem c12_light {s : T9.St} (h : s.light) : (T9.canon s).light := by
 have q : ∀ t ∈ (T9.canon s).tasks, ∃ u ∈ s.tasks, T9.norm u = t := fun t ht => by
  obtain ⟨u, hu, e⟩ := List.mem_map.1 ht
  exact ⟨u, Sr.canon_mem hu, e⟩
 refine ⟨Nat.le_trans (Sr.canon_len _) h.nl, ?_, fun l hl => h.name l (Sr.canon_mem hl), ?_, ?_, ?_⟩
 ·show ((Sr.canon T9.ltK s.tasks).map T9.norm).length ≤ 70
  rw [List.length_map]
  exact Nat.le_trans (Sr.canon_len _) h.nt
 ·intro t ht
  obtain ⟨u, hu, rfl⟩ := q t ht
  exact h.title u hu
 ·intro t ht
  obtain ⟨u, hu, rfl⟩ := q t ht
  exact Nat.le_trans (Sr.canon_len _) (h.few u hu)
 ·intro t ht x hx
  obtain ⟨u, hu, rfl⟩ := q t ht
  exact h.tag u hu x (Sr.canon_mem hx)
theorem c12_ok {s : T9.St} (h : s.ok) : (T9.canon s).ok := by
 refine ⟨fun l hl => h.1 l (Sr.canon_mem hl), fun t ht => ?_⟩
 obtain ⟨u, hu, rfl⟩ := List.mem_map.1 ht
 obtain ⟨a, b, c, d⟩ := h.2 u (Sr.canon_mem hu)
 exact ⟨a, b, Fl.canon_lt c, Fl.canon_lt d⟩
theorem c12_lists (s : T9.St) : (T9.canon s).lists.Pairwise (fun x y => x.id < y.id) := (Sr.canon_spec T9.woL s.lists).1.imp (fun {a b} h => by simpa [T9.ltL] using h)
theorem c12_tasks (s : T9.St) : (T9.canon s).tasks.Pairwise (fun x y => x.id < y.id) := by
 show ((Sr.canon T9.ltK s.tasks).map T9.norm).Pairwise _
 rw [List.pairwise_map]
 exact (Sr.canon_spec T9.woK s.tasks).1.imp (fun {a b} h => by simpa [T9.ltK, T9.norm] using h)
def gone {α : Type} (g : α → Nat) (os ns : List α) : List Nat := (os.filter (fun x => (firstN g ns (g x)).isNone)).map g
theorem first_some {α : Type} {g : α → Nat} {ls : List α} {k : Nat} : (firstN g ls k).isSome = true ↔ ∃ x ∈ ls, g x = k := by
 unfold firstN
 rw [List.find?_isSome]
 simp
theorem ris_gone {α : Type} {g : α → Nat} {v : α → Value} {os ns : List α} (hs : os.Pairwise (fun x y => g x < g y)) {ss : List Nat} (h : RisN (leftN g v os ns) ss) : ss = gone g os ns := by
 have hp : (gone g os ns).Pairwise (· < ·) := by
  unfold gone
  rw [List.pairwise_map]
  exact hs.filter _
 have nd : ∀ {l : List Nat}, l.Pairwise (· < ·) → l.Nodup := fun {l} q => q.imp (fun {a b} r => by omega)
 refine List.Perm.eq_of_pairwise (le := fun a b => a < b) (fun a b _ _ h1 h2 => by omega) h.1 hp ((List.perm_ext_iff_of_nodup (nd h.1) (nd hp)).2 fun x => ?_)
 rw [h.2 x]
 unfold gone leftN
 simp only [List.mem_map, List.mem_filter]
 constructor
 ·intro q
  cases e : firstN g ns x with
  | some y => rw [e] at q; simp at q
  | none =>
   rw [e] at q
   simp at q
   obtain ⟨y, hy, e2⟩ := first_some.1 q
   exact ⟨y, ⟨hy, by rw [e2, e]; rfl⟩, e2⟩
 ·rintro ⟨y, ⟨hy, e⟩, rfl⟩
  rw [Option.isNone_iff_eq_none] at e
  rw [e]
  simp
  exact first_some.2 ⟨y, hy, rfl⟩
theorem first_map {α β : Type} (f : α → β) {g : α → Nat} {g' : β → Nat} (hg : ∀ x, g x = g' (f x)) (ls : List α) (k : Nat) : firstN g' (ls.map f) k = (firstN g ls k).map f := by
 unfold firstN
 rw [List.find?_map]
 congr 1
 congr 1
 funext x
 simp [hg]
theorem gone_map {α β : Type} (f : α → β) {g : α → Nat} {g' : β → Nat} (hg : ∀ x, g x = g' (f x)) (os ns : List α) : gone g os ns = gone g' (os.map f) (ns.map f) := by
 unfold gone
 rw [List.filter_map, List.map_map]
 congr 1
 ·funext x
  exact hg x
 ·congr 1
  funext x
  simp [first_map f hg, hg]
theorem news_map {α β : Type} (f : α → β) {g : α → Nat} {g' : β → Nat} (hg : ∀ x, g x = g' (f x)) {sm : α → α → Bool} {sm' : β → β → Bool} (hs : ∀ x y, sm x y = sm' (f x) (f y)) (os ns : List α) : (news g sm os ns).map f = news g' sm' (os.map f) (ns.map f) := by
 unfold news
 rw [List.filter_map]
 congr 1
 congr 1
 funext x
 simp only [Function.comp, first_map f hg, ← hg]
 cases firstN g os (g x) <;> simp [hs]
theorem first_prior {α : Type} {g : α → Nat} {ls : List α} (hs : ls.Pairwise (fun x y => g x < g y)) (i : Nat) (x : α) (h : ls[i]? = some x) : firstN g (ls.take i) (g x) = none := by
 unfold firstN
 rw [List.find?_eq_none]
 intro y hy e
 obtain ⟨j, hj, e2⟩ := List.getElem_of_mem hy
 rw [List.length_take] at hj
 obtain ⟨q1, q2⟩ := List.getElem?_eq_some_iff.1 h
 rw [List.getElem_take] at e2
 have := List.pairwise_iff_getElem.1 hs j i (by omega) q1 (by omega)
 rw [q2, e2] at this
 simp at e
 omega
structure TS (s : MSt) (w : World) : Prop where
 l : Lies w 0 32 s.A (lcells s.ls)
 k : Lies w 0 38 s.A2 (tkcells s.ms)
 t : ∀ q ∈ s.ms, Lies w 0 9 q.A (gcells q.t.tags) ∧ q.t.tags.length ≤ q.c
 lc : s.ls.length ≤ s.c
 kc : s.ms.length ≤ s.c2
theorem TS.tch {s : MSt} {w w' : World} {B : Nat} {ts : List TypeId} (h : TS s w) (hT : Tch B ts w w') (h1 : 32 ∉ ts) (h2 : 38 ∉ ts) (h3 : 9 ∉ ts) : TS s w' :=
 ⟨h.l.tch (hT.mono (Nat.zero_le _)) h1, h.k.tch (hT.mono (Nat.zero_le _)) h2, fun q hq => ⟨(h.t q hq).1.tch (hT.mono (Nat.zero_le _)) h3, (h.t q hq).2⟩, h.lc, h.kc⟩
theorem TS.stay {s : MSt} {w w' : World} (h : TS s w) (hb : Below w.heap.size w w') : TS s w' := h.tch (Tch.of_below hb (Nat.le_refl _) []) (by simp) (by simp) (by simp)
theorem TS.sm {s : MSt} {w : World} (h : TS s w) : SM s w := ⟨h.l.old, ⟨h.k.old, fun q hq => ⟨(h.t q hq).1.old, (h.t q hq).2⟩⟩, h.lc, h.kc⟩
theorem canonTS_c {s : MSt} {w : World} (hs : SM s w) (hl : s.st.light) : Calls Tryz.prog 17 #[s.val] w fun e w' => ∃ m : MSt, e = .returned m.val ∧ TS m w' ∧ m.st = T9.canon s.st ∧ Below w.heap.size w w' := by
 have n1 := hl.nl
 have n2 : (tks s.ms).length ≤ 70 := hl.nt
 rw [tks_len] at n2
 have n1' : s.ls.length ≤ 25 := n1
 refine (canonO_c (c := s.c) (c2 := s.c2) hs.l hs.k rfl rfl (by omega) (by omega) (fun t ht => by have := hl.few t.t (List.mem_map.2 ⟨t, ht, rfl⟩); omega)).mono ?_
 rintro e w' ⟨m, rfl, hm, hst, hb, ⟨hl0, ht0, hk0⟩, _⟩
 refine ⟨m, rfl, ⟨hl0, ?_, fun q hq => ⟨ht0 q hq, (hm.k.2 q hq).2⟩, hm.lc, hm.kc⟩, hst, hb⟩
 rcases hk0 with e0 | ⟨g, e1, e2⟩
 ·rw [e0]; exact Lies.nil
 ·rw [e1]; exact Lies.of_own e2
theorem st_set {v v2 : World} {g : Nat} {a b x y : Value} (hg : v.heap[g]? = some (.cells #[a, b] 25 (0, 0))) (e : (v.setCell ⟨g, 0, none⟩ x).setCell ⟨g, 1, none⟩ y = v2) :
  Tch 0 [25] v v2 ∧ v2.heap[g]? = some (.cells #[x, y] 25 (0, 0)) ∧ (∀ k, k ≠ g → v2.heap[k]? = v.heap[k]?) ∧ (∀ B, B ≤ g → Below B v v2) := by
 subst e
 have yr : Ty v g 25 := ⟨_, _, hg⟩
 exact ⟨((Tch.refl 0 [25] v).setTy (p := ⟨g, 0, none⟩) yr (by simp) (Nat.zero_le _) x).setTy (p := ⟨g, 1, none⟩) (yr.set _ _) (by simp) (Nat.zero_le _) y, blk_set (blk_set hg 0 _) 1 _,
  fun k hk => (Below.heap_setCell _ _ _ k hk).trans (Below.heap_setCell _ _ _ k hk), fun B hB => ((Below.refl B v).setCell hB _).setCell hB _⟩
theorem four12 {w : World} {g : Nat} {a b c d : Value} {t : TypeId} {fr : Nat × Nat} (h : w.heap[g]? = some (.cells #[a, b, c, d] t fr)) : w.cell? ⟨g, 0, none⟩ = some a ∧ w.cell? ⟨g, 1, none⟩ = some b ∧ w.cell? ⟨g, 2, none⟩ = some c ∧ w.cell? ⟨g, 3, none⟩ = some d :=
 ⟨by simp [World.cell?, h], by simp [World.cell?, h], by simp [World.cell?, h], by simp [World.cell?, h]⟩
theorem pt_set {v v2 : World} {g i : Nat} {cs : Array Value} {x : Value} (hg : v.heap[g]? = some (.cells cs 45 (0, 0))) (e : v.setCell ⟨g, i, none⟩ x = v2) :
  Tch 0 [45] v v2 ∧ v2.heap[g]? = some (.cells (cs.setIfInBounds i x) 45 (0, 0)) ∧ (∀ k, k ≠ g → v2.heap[k]? = v.heap[k]?) ∧ (∀ B, B ≤ g → Below B v v2) := by
 subst e
 have yr : Ty v g 45 := ⟨_, _, hg⟩
 exact ⟨(Tch.refl 0 [45] v).setTy (p := ⟨g, i, none⟩) yr (by simp) (Nat.zero_le _) x, blk_set hg i _, fun k hk => Below.heap_setCell _ _ _ k hk, fun B hB => (Below.refl B v).setCell hB _⟩
def newL (a b : T9.St) : List T9.Li := news idL smL a.lists b.lists
def newK (a b : T9.St) : List T9.Tk := news T9.Tk.id T9.same1 a.tasks b.tasks
def goneL (a b : T9.St) : List Nat := gone idL a.lists b.lists
def goneK (a b : T9.St) : List Nat := gone T9.Tk.id a.tasks b.tasks
structure PDt where
 ls : List T9.Li
 A : Option Addr
 c : Nat
 ms : List MTk
 A2 : Option Addr
 c2 : Nat
 gl : List Nat
 A3 : Option Addr
 c3 : Nat
 gk : List Nat
 A4 : Option Addr
 c4 : Nat
def PDt.cells (p : PDt) : Array Value := #[.slice p.A p.ls.length p.c, .slice p.A2 p.ms.length p.c2, .slice p.A3 p.gl.length p.c3, .slice p.A4 p.gk.length p.c4]
structure TPd (p : PDt) (w : World) : Prop where
 l : Lies w 0 32 p.A (lcells p.ls)
 k : Lies w 0 38 p.A2 (tkcells p.ms)
 t : ∀ q ∈ p.ms, Lies w 0 9 q.A (gcells q.t.tags) ∧ q.t.tags.length ≤ q.c
 g : Lies w 0 30 p.A3 (p.gl.map encU)
 h : Lies w 0 30 p.A4 (p.gk.map encU)
 lc : p.ls.length ≤ p.c
 kc : p.ms.length ≤ p.c2
 gc : p.gl.length ≤ p.c3
 hc : p.gk.length ≤ p.c4
theorem TPd.tch {s : PDt} {w w' : World} {B : Nat} {ts : List TypeId} (h : TPd s w) (hT : Tch B ts w w') (h1 : 32 ∉ ts) (h2 : 38 ∉ ts) (h3 : 9 ∉ ts) (h4 : 30 ∉ ts) : TPd s w' :=
 ⟨h.l.tch (hT.mono (Nat.zero_le _)) h1, h.k.tch (hT.mono (Nat.zero_le _)) h2, fun q hq => ⟨(h.t q hq).1.tch (hT.mono (Nat.zero_le _)) h3, (h.t q hq).2⟩, h.g.tch (hT.mono (Nat.zero_le _)) h4, h.h.tch (hT.mono (Nat.zero_le _)) h4, h.lc, h.kc, h.gc, h.hc⟩
theorem TPd.stay {s : PDt} {w w' : World} (h : TPd s w) (hb : Below w.heap.size w w') : TPd s w' := h.tch (Tch.of_below hb (Nat.le_refl _) []) (by simp) (by simp) (by simp) (by simp)
def OfOk (a b : T9.St) (w : World) (e : Ending) (w' : World) : Prop := ∃ p : PDt, e = .returned (.agg p.cells) ∧ TPd p w' ∧ p.ls = newL a b ∧ tks p.ms = newK a b ∧ p.gl = goneL a b ∧ p.gk = goneK a b ∧ Below w.heap.size w w'
set_option maxHeartbeats 8000000 in
theorem of12_c {a b : MSt} {w : World} (ha : SM a w) (hb : SM b w) (la : a.st.light) (lb : b.st.light) (oa : a.st.ok) (ob : b.st.ok) :
  Calls Tryz.prog 11 #[a.val, b.val] w (OfOk (T9.canon a.st) (T9.canon b.st) w) := by
 obtain ⟨w1, hw1⟩ : ∃ u, w.alloc (.cells #[.slice a.A a.ls.length a.c, .slice a.A2 a.ms.length a.c2] 25) = u := ⟨_, rfl⟩
 obtain ⟨pa, b1, z1⟩ := new_two hw1
 obtain ⟨w2, hw2⟩ : ∃ u, w1.alloc (.cells #[.slice b.A b.ls.length b.c, .slice b.A2 b.ms.length b.c2] 25) = u := ⟨_, rfl⟩
 obtain ⟨pb, b2, z2⟩ := new_two hw2
 obtain ⟨w3, hw3⟩ : ∃ u, w2.alloc (.cells #[.slice none 0 0, .slice none 0 0, .slice none 0 0, .slice none 0 0] 45) = u := ⟨_, rfl⟩
 have b3 : Below w2.heap.size w2 w3 := by rw [← hw3]; exact (Below.refl _ _).alloc (Nat.le_refl _) _
 have pc : w3.heap[w2.heap.size]? = some (.cells #[.slice none 0 0, .slice none 0 0, .slice none 0 0, .slice none 0 0] 45 (0, 0)) := by rw [← hw3]; exact World.alloc_heap_new w2 _
 have z3 : w3.heap.size = w2.heap.size + 1 := by rw [← hw3]; simp
 have y2 : w2.heap.size = w.heap.size + 2 := by omega
 have y3 : w3.heap.size = w.heap.size + 3 := by omega
 clear z2 z3
 rw [z1] at pb
 rw [y2] at pc
 have BW : Hid (Below w.heap.size w w3) := hid ((b1.trans (b2.mono (by omega))).trans (b3.mono (by omega)))
 have PA : Hid (w3.heap[w.heap.size]? = some (.cells #[.slice a.A a.ls.length a.c, .slice a.A2 a.ms.length a.c2] 25 (0, 0))) := hid ((b3.block w.heap.size (by omega)).trans ((b2.block w.heap.size (by omega)).trans pa))
 have PB : Hid (w3.heap[w.heap.size + 1]? = some (.cells #[.slice b.A b.ls.length b.c, .slice b.A2 b.ms.length b.c2] 25 (0, 0))) := hid ((b3.block (w.heap.size + 1) (by omega)).trans pb)
 have PC := hid pc
 have Y3 := hid y3
 have CA := fun (v : World) (hv : Below w3.heap.size w3 v) => canonTS_c ((ha.stay BW.out).stay hv) la
 have CB := fun (v : World) (hv : Below w3.heap.size w3 v) => canonTS_c ((hb.stay BW.out).stay hv) lb
 unfold MSt.val at CA CB
 have CA' := hid CA
 have CB' := hid CB
 have LA := hid (c12_light la)
 have LB := hid (c12_light lb)
 have OA := hid (c12_ok oa)
 have OB := hid (c12_ok ob)
 clear ha hb la lb oa ob pa pb pc b1 b2 b3 CA CB
 show Calls Tryz.prog 11 #[.agg #[.slice a.A a.ls.length a.c, .slice a.A2 a.ms.length a.c2], .agg #[.slice b.A b.ls.length b.c, .slice b.A2 b.ms.length b.c2]] w _
 go_enter Tryz.func11, Tryz.ntmps11
 go_upto_region 1 with fail
 refine Any.begin (S := fun u => u.heap[w.heap.size + 1]? = some (.cells #[.slice b.A b.ls.length b.c, .slice b.A2 b.ms.length b.c2] 25 (0, 0))) (st := 5) mixed9 ?_
 have S0 : w3.drew.heap[w.heap.size + 1]? = some (.cells #[.slice b.A b.ls.length b.c, .slice b.A2 b.ms.length b.c2] 25 (0, 0)) := PB.out
 have D0 : Hid (Below w3.heap.size w3 w3.drew) := hid (Below.refl _ _).drew
 refine tkA 2 ?_ rfl (by kernel_rfl) rfl (by kernel_rfl) rfl ?_ S0 ?_
 rotate_left
 ·intro u hu;obtain ⟨y0, y1⟩ := two_cells hu;go_simp;try rfl
 try simp only [Act.put, pS]
 refine Any.one (i := 0) (by kernel_rfl) rfl (fun K hK => ?_)
 obtain ⟨x0, x1⟩ := two_cells (show w3.drew.heap[w.heap.size]? = some (.cells #[.slice a.A a.ls.length a.c, .slice a.A2 a.ms.length a.c2] 25 (0, 0)) from PA.out)
 go_simp
 refine hK _ _ (fun _ => S0) ?_
 clear hK K x0 x1
 try simp only [Act.put, pS]
 refine Any.one (i := 1) (by kernel_rfl) rfl (fun K hK => ?_)
 go_simp
 refine (CA'.out _ D0.out).mono ?_
 rintro e va ⟨sa, rfl, hta, hsa, hba⟩
 have S1 := blk_keep S0 hba
 have TA := hid hta
 have QA := hid hsa
 have DA : Hid (Below w3.heap.size w3 va) := hid (D0.out.trans (hba.mono D0.out.size))
 refine hK _ _ (fun _ => S1) ?_
 clear hK K S0 hta hsa hba
 have S0 := S1
 clear S1
 try simp only [Act.put, pS]
 refine Any.one (i := 3) (by kernel_rfl) rfl (fun K hK => ?_)
 go_simp
 refine (CB'.out _ DA.out).mono ?_
 rintro e vb ⟨sb, rfl, htb, hsb, hbb⟩
 have S1 := blk_keep S0 hbb
 have TB := hid htb
 have QB := hid hsb
 have TA2 := hid (TA.out.stay hbb)
 have DB : Hid (Below w3.heap.size w3 vb) := hid (DA.out.trans (hbb.mono DA.out.size))
 refine hK _ _ (fun _ => S1) ?_
 clear hK K S0 htb hsb hbb
 have S0 := S1
 clear S1
 try simp only [Act.put, pS]
 refine Any.one (i := 4) (by kernel_rfl) rfl (fun K hK => ?_)
 have ga := (DB.out.block w.heap.size (by have := Y3.out; omega)).trans PA.out
 have PC2 : Hid (vb.heap[w.heap.size + 2]? = some (.cells #[.slice none 0 0, .slice none 0 0, .slice none 0 0, .slice none 0 0] 45 (0, 0))) := hid ((DB.out.block (w.heap.size + 2) (by have := Y3.out; omega)).trans PC.out)
 obtain ⟨g0, g1⟩ := two_cells ga
 have gf0 := blk_free ga 0
 have gf1 := blk_free ga 1
 go_simp
 obtain ⟨vc, hvc⟩ : ∃ u, (vb.setCell ⟨w.heap.size, 0, none⟩ (.slice sa.A sa.ls.length sa.c)).setCell ⟨w.heap.size, 1, none⟩ (.slice sa.A2 sa.ms.length sa.c2) = u := ⟨_, rfl⟩
 try rw [hvc]
 obtain ⟨t4, ga4, k4, b4⟩ := st_set ga hvc
 have S1 := (k4 (w.heap.size + 1) (by omega)).trans S0
 have GA := hid ga4
 have PC4 := hid ((k4 (w.heap.size + 2) (by omega)).trans PC2.out)
 have TA4 := hid (TA2.out.tch t4 (by decide) (by decide) (by decide))
 have TB4 := hid (TB.out.tch t4 (by decide) (by decide) (by decide))
 have B4 : Hid (Below w.heap.size w vc) := hid ((BW.out.trans (DB.out.mono (by have := Y3.out; omega))).trans (b4 _ (Nat.le_refl _)))
 refine hK _ _ (fun _ => S1) ?_
 clear hK K S0 ga g0 g1 gf0 gf1 t4 ga4 k4 b4 hvc
 have S0 := S1
 clear S1
 try simp only [Act.put, pS]
 refine Any.one (i := 5) (by kernel_rfl) rfl (fun K hK => ?_)
 obtain ⟨g0, g1⟩ := two_cells S0
 have gf0 := blk_free S0 0
 have gf1 := blk_free S0 1
 go_simp
 obtain ⟨vd, hvd⟩ : ∃ u, (vc.setCell ⟨w.heap.size + 1, 0, none⟩ (.slice sb.A sb.ls.length sb.c)).setCell ⟨w.heap.size + 1, 1, none⟩ (.slice sb.A2 sb.ms.length sb.c2) = u := ⟨_, rfl⟩
 try rw [hvd]
 obtain ⟨t4, gb4, k4, b4⟩ := st_set S0 hvd
 have GB := hid gb4
 have GA5 := hid ((k4 w.heap.size (by omega)).trans GA.out)
 have PC5 := hid ((k4 (w.heap.size + 2) (by omega)).trans PC4.out)
 have TA5 := hid (TA4.out.tch t4 (by decide) (by decide) (by decide))
 have TB5 := hid (TB4.out.tch t4 (by decide) (by decide) (by decide))
 have B5 : Hid (Below w.heap.size w vd) := hid (B4.out.trans (b4 _ (by omega)))
 refine hK _ _ (fun z => absurd rfl z) ?_
 clear hK K S0 g0 g1 gf0 gf1 t4 gb4 k4 b4 hvd
 try simp only [Act.put, pS]
 refine Any.done (by kernel_rfl) ?_
 clear PA PB PC PC2 PC4 GA TA TA2 TB TA4 TB4 CA' CB' D0 DA DB B4
 obtain ⟨ve, hve⟩ : ∃ u, vd.alloc (.cells #[.slice none 0 0, .slice none 0 0, .slice none 0 0, .slice none 0 0] 45) = u := ⟨_, rfl⟩
 have be : Below vd.heap.size vd ve := by rw [← hve]; exact (Below.refl _ _).alloc (Nat.le_refl _) _
 have PE : Hid (ve.heap[vd.heap.size]? = some (.cells #[.slice none 0 0, .slice none 0 0, .slice none 0 0, .slice none 0 0] 45 (0, 0))) := hid (by rw [← hve]; exact World.alloc_heap_new vd _)
 have GA6 := hid (blk_keep GA5.out be)
 have GB6 := hid (blk_keep GB.out be)
 have PC6 := hid (blk_keep PC5.out be)
 have TA6 := hid (TA5.out.stay be)
 have TB6 := hid (TB5.out.stay be)
 have ZD : Hid (w.heap.size + 2 < vd.heap.size) := hid (lt_of_block PC5.out)
 have B6 : Hid (Below w.heap.size w ve) := hid (B5.out.trans (be.mono (by have := ZD.out; omega)))
 have EA1 : sa.ls = (T9.canon a.st).lists := congrArg T9.St.lists QA.out
 have EA2 : tks sa.ms = (T9.canon a.st).tasks := congrArg T9.St.tasks QA.out
 have EB1 : sb.ls = (T9.canon b.st).lists := congrArg T9.St.lists QB.out
 have EB2 : tks sb.ms = (T9.canon b.st).tasks := congrArg T9.St.tasks QB.out
 have NA1 : sa.ls.length ≤ 25 := by rw [EA1]; exact LA.out.nl
 have NB1 : sb.ls.length ≤ 25 := by rw [EB1]; exact LB.out.nl
 have NA2 : sa.ms.length ≤ 70 := by rw [← tks_len, EA2]; exact LA.out.nt
 have NB2 : sb.ms.length ≤ 70 := by rw [← tks_len, EB2]; exact LB.out.nt
 have mem : ∀ {s : MSt} {m : MTk}, m ∈ s.ms → m.t ∈ tks s.ms := fun {s m} h => List.mem_map.2 ⟨m, h, rfl⟩
 have SP : ∀ {ms : List MTk} {s : T9.St}, tks ms = (T9.canon s).tasks → ms.Pairwise (fun x y => idK x < idK y) := fun {ms s} e => by
  have q := c12_tasks s
  rw [← e] at q
  have q2 : (ms.map MTk.t).Pairwise (fun x y => x.id < y.id) := q
  rw [List.pairwise_map] at q2
  exact q2
 have SL : ∀ {ls : List T9.Li} {s : T9.St}, ls = (T9.canon s).lists → ls.Pairwise (fun x y => idL x < idL y) := fun {ls s} e => by rw [e]; exact c12_lists s
 have CL := hid (chgL_c (c1 := sa.c) (c2 := sb.c) TA6.out.sm.l TB6.out.sm.l rfl rfl (by omega) (by omega) (fun l hl => OA.out.1 l (by rw [← EA1]; exact hl)) (fun l hl => OB.out.1 l (by rw [← EB1]; exact hl)) (first_prior (SL EB1)))
 have CK := hid (fun (v : World) (ta : TS sa v) (tb : TS sb v) => chgK_c (c1 := sa.c2) (c2 := sb.c2) ta.sm.k tb.sm.k rfl rfl (by omega) (by omega) (fun m hm => (OA.out.2 m.t (by rw [← EA2]; exact mem hm)).1) (fun m hm => (OB.out.2 m.t (by rw [← EB2]; exact mem hm)).1) (first_prior (SP EB2)) (fun m hm => ⟨LA.out.short.2.1 m.t (by rw [← EA2]; exact mem hm), OA.out.2 m.t (by rw [← EA2]; exact mem hm)⟩) (fun m hm => ⟨LB.out.short.2.1 m.t (by rw [← EB2]; exact mem hm), OB.out.2 m.t (by rw [← EB2]; exact mem hm)⟩))
 have RL := hid (fun (ss : List Nat) (h : RisN (leftN idL vL sa.ls sb.ls) ss) => ris_gone (SL EA1) h)
 have RK := hid (fun (ss : List Nat) (h : RisN (leftN idK vK sa.ms sb.ms) ss) => ris_gone (SP EA2) h)
 have E1 := hid EA1
 have E2 := hid EA2
 have E3 := hid EB1
 have E4 := hid EB2
 obtain ⟨x0, x1⟩ := two_cells GA6.out
 obtain ⟨y0, y1⟩ := two_cells GB6.out
 clear be EA1 EA2 EB1 EB2 NA1 NB1 NA2 NB2 mem SP SL LA LB OA OB QA QB GA5 GB PC5 TA5 TB5 B5
 go_upto_region 4 with (go_at_call 29; refine CL.out.mono ?_; rintro e v7 ⟨A7, c7, A8, c8, gl, rfl, l7, lc7, r7, l8, gc8, b7⟩; have HL7 := hid l7; have HG7 := hid l8; have HR7 := hid (RL.out _ r7); have HB7 := hid b7; have pe7 := blk_keep PE.out b7; obtain ⟨p0, p1, p2, p3⟩ := four12 pe7; have f0 := blk_free pe7 0; have f2 := blk_free pe7 2; have PE7 := hid pe7; clear l7 l8 r7 b7 pe7)
 obtain ⟨u7, hu7⟩ : ∃ u, v7.setCell ⟨vd.heap.size, 0, none⟩ (.slice A7 (news idL smL sa.ls sb.ls).length c7) = u := ⟨_, rfl⟩
 try rw [hu7]
 obtain ⟨v8, hv8⟩ : ∃ u, u7.setCell ⟨vd.heap.size, 2, none⟩ (.slice A8 gl.length c8) = u := ⟨_, rfl⟩
 try rw [hv8]
 obtain ⟨t7, g7, k7, q7⟩ := pt_set PE7.out hu7
 obtain ⟨t8, g8, k8, q8⟩ := pt_set g7 hv8
 have T78 := t7.trans t8
 have K78 : ∀ k, k ≠ vd.heap.size → v8.heap[k]? = v7.heap[k]? := fun k hk => (k8 k hk).trans (k7 k hk)
 have PE8 := hid g8
 have GA8 := hid ((K78 w.heap.size (by have := ZD.out; omega)).trans (blk_keep GA6.out HB7.out))
 have GB8 := hid ((K78 (w.heap.size + 1) (by have := ZD.out; omega)).trans (blk_keep GB6.out HB7.out))
 have PC8 := hid ((K78 (w.heap.size + 2) (by have := ZD.out; omega)).trans (blk_keep PC6.out HB7.out))
 have TA8 := hid ((TA6.out.stay HB7.out).tch T78 (by decide) (by decide) (by decide))
 have TB8 := hid ((TB6.out.stay HB7.out).tch T78 (by decide) (by decide) (by decide))
 have HL8 := hid (HL7.out.tch T78 (by decide))
 have HG8 := hid (HG7.out.tch T78 (by decide))
 have ZV : Hid (vd.heap.size < v8.heap.size) := hid (lt_of_block g8)
 have B8 : Hid (Below w.heap.size w v8) := hid ((B6.out.trans (HB7.out.mono B6.out.size)).trans ((q7 w.heap.size (by have := ZD.out; omega)).trans (q8 w.heap.size (by have := ZD.out; omega))))
 have CK8 := hid (CK.out v8 TA8.out TB8.out)
 clear x0 x1 y0 y1 p0 p1 p2 p3 f0 f2 t7 g7 k7 q7 t8 g8 k8 q8 T78 K78 hu7 hv8 PE7 GA6 GB6 PC6 TA6 TB6 CL CK HL7 HG7 B6 PE
 obtain ⟨x0, x1⟩ := two_cells GA8.out
 obtain ⟨y0, y1⟩ := two_cells GB8.out
 go_upto_region 5 with (go_at_call 31; refine CK8.out.mono ?_; rintro e v9 ⟨A9, c9, A10, c10, gk, rfl, l9, lc9, r9, l10, gc10, b9⟩; have HL9 := hid l9; have HG9 := hid l10; have HR9 := hid (RK.out _ r9); have HB9 := hid b9; have pe9 := blk_keep PE8.out b9; obtain ⟨p0, p1, p2, p3⟩ := four12 pe9; have f1 := blk_free pe9 1; have f3 := blk_free pe9 3; have PE9 := hid pe9; clear l9 l10 r9 b9 pe9)
 obtain ⟨u9, hu9⟩ : ∃ u, v9.setCell ⟨vd.heap.size, 1, none⟩ (.slice A9 (news idK smK sa.ms sb.ms).length c9) = u := ⟨_, rfl⟩
 try rw [hu9]
 obtain ⟨va, hva⟩ : ∃ u, u9.setCell ⟨vd.heap.size, 3, none⟩ (.slice A10 gk.length c10) = u := ⟨_, rfl⟩
 try rw [hva]
 obtain ⟨t7, g7, k7, q7⟩ := pt_set PE9.out hu9
 obtain ⟨t8, g8, k8, q8⟩ := pt_set g7 hva
 have T78 := t7.trans t8
 have K78 : ∀ k, k ≠ vd.heap.size → va.heap[k]? = v9.heap[k]? := fun k hk => (k8 k hk).trans (k7 k hk)
 have PEa := hid g8
 have PCa := hid ((K78 (w.heap.size + 2) (by have := ZD.out; omega)).trans (blk_keep PC8.out HB9.out))
 have TBa := hid ((TB8.out.stay HB9.out).tch T78 (by decide) (by decide) (by decide))
 have HLa := hid ((HL8.out.tch (Tch.of_below (B := 0) HB9.out (Nat.zero_le _) []) (by simp)).tch T78 (by decide))
 have HGa := hid ((HG8.out.tch (Tch.of_below (B := 0) HB9.out (Nat.zero_le _) []) (by simp)).tch T78 (by decide))
 have HKa := hid (HL9.out.tch T78 (by decide))
 have HHa := hid (HG9.out.tch T78 (by decide))
 have Ba : Hid (Below w.heap.size w va) := hid ((B8.out.trans (HB9.out.mono B8.out.size)).trans ((q7 w.heap.size (by have := ZD.out; omega)).trans (q8 w.heap.size (by have := ZD.out; omega))))
 clear x0 x1 y0 y1 p0 p1 p2 p3 f1 f3 t7 g7 k7 q7 t8 g8 k8 q8 T78 K78 hu9 hva PE9 PE8 GA8 GB8 PC8 TA8 TB8 HL8 HG8 HL9 HG9 B8 CK8
 obtain ⟨p0, p1, p2, p3⟩ := four12 PEa.out
 have e0 := blk_free PCa.out 0
 have e1 := blk_free PCa.out 1
 have e2 := blk_free PCa.out 2
 have e3 := blk_free PCa.out 3
 obtain ⟨o0, o1, o2, o3⟩ := four12 PCa.out
 obtain ⟨vz, hvz⟩ : ∃ u, (((va.setCell ⟨w.heap.size + 2, 0, none⟩ (.slice A7 (news idL smL sa.ls sb.ls).length c7)).setCell ⟨w.heap.size + 2, 1, none⟩ (.slice A9 (news idK smK sa.ms sb.ms).length c9)).setCell ⟨w.heap.size + 2, 2, none⟩ (.slice A8 gl.length c8)).setCell ⟨w.heap.size + 2, 3, none⟩ (.slice A10 gk.length c10) = u := ⟨_, rfl⟩
 have KZ : Hid (vz.heap[w.heap.size + 2]? = some (.cells #[.slice A7 (news idL smL sa.ls sb.ls).length c7, .slice A9 (news idK smK sa.ms sb.ms).length c9, .slice A8 gl.length c8, .slice A10 gk.length c10] 45 (0, 0)) ∧ Tch 0 [45] va vz ∧ Below w.heap.size va vz) := hid (by
  obtain ⟨t1, g1, _, q1⟩ := pt_set PCa.out (rfl : va.setCell ⟨w.heap.size + 2, 0, none⟩ (.slice A7 (news idL smL sa.ls sb.ls).length c7) = _)
  obtain ⟨t2, g2, _, q2⟩ := pt_set (i := 1) (x := .slice A9 (news idK smK sa.ms sb.ms).length c9) g1 rfl
  obtain ⟨t3, g3, _, q3⟩ := pt_set (i := 2) (x := .slice A8 gl.length c8) g2 rfl
  obtain ⟨t4, g4, _, q4⟩ := pt_set (i := 3) (x := .slice A10 gk.length c10) g3 hvz
  exact ⟨g4, ((t1.trans t2).trans t3).trans t4, (((q1 w.heap.size (by omega)).trans (q2 w.heap.size (by omega))).trans (q3 w.heap.size (by omega))).trans (q4 w.heap.size (by omega))⟩)
 obtain ⟨z0, z1, z2, z3⟩ := four12 KZ.out.1
 go_wp2
 try rw [hvz]
 refine bodyPost_ret (v := .agg #[.slice A7 (news idL smL sa.ls sb.ls).length c7, .slice A9 (news idK smK sa.ms sb.ms).length c9, .slice A8 gl.length c8, .slice A10 gk.length c10]) (by simp [results, Tryz.results11, go_sem, z0, z1, z2, z3]) rfl ?_
 have TZ := KZ.out.2.1
 refine ⟨⟨news idL smL sa.ls sb.ls, A7, c7, news idK smK sa.ms sb.ms, A9, c9, gl, A8, c8, gk, A10, c10⟩, rfl, ⟨HLa.out.tch TZ (by decide), HKa.out.tch TZ (by decide), fun q hq => ?_, HGa.out.tch TZ (by decide), HHa.out.tch TZ (by decide), lc7, lc9, gc8, gc10⟩, ?_, ?_, ?_, ?_, Ba.out.trans KZ.out.2.2⟩
 ·exact (TBa.out.tch TZ (by decide) (by decide) (by decide)).t q (news_mem hq)
 ·show news idL smL sa.ls sb.ls = _
  rw [E1.out, E3.out]
  rfl
 ·show tks (news idK smK sa.ms sb.ms) = _
  refine (news_map MTk.t (g := idK) (g' := T9.Tk.id) (sm := smK) (sm' := T9.same1) (fun _ => rfl) (fun _ _ => rfl) sa.ms sb.ms).trans ?_
  show news _ _ (tks sa.ms) (tks sb.ms) = _
  rw [E2.out, E4.out]
  rfl
 ·show gl = _
  rw [HR7.out, E1.out, E3.out]
  rfl
 ·show gk = _
  rw [HR9.out]
  refine (gone_map MTk.t (g := idK) (g' := T9.Tk.id) (fun _ => rfl) sa.ms sb.ms).trans ?_
  show gone _ (tks sa.ms) (tks sb.ms) = _
  rw [E2.out, E4.out]
  rfl
end
end
end Go.Proofs.YtnhpkcphgdkdiaaGreat
