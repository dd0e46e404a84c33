/- Stage 10: where a task stands (rank.place, the document's Place), math.Inf. Stage 10: rank.Between, rank.At. Stage 10: slices.BinarySearchFunc at tasks by Id; rank.Spread. -/
import Derived.Test.YtnhpkcphgdkdiaaKd
import Derived.Test.YtnhpkcphgdkdiaaTaa
import Derived.Test.YtnhpkcphgdkdiaaTt
import Derived.Deep.LoopGhost
namespace Go.Proofs.Ytnhpkcphgdkdiaa
set_option maxRecDepth 100000

section
open Go.Shelf Go.RowKit Go.Lib Go.Sort

namespace T9
theorem plc_hit {l : List Tk} {i id : Nat} {t : Tk} (h : ∀ x ∈ l.take i, x.id ≠ id) (hx : l[i]? = some t) (e : t.id = id) : plc l id = some i := by
  obtain ⟨hi, et⟩ := List.getElem?_eq_some_iff.1 hx
  unfold plc
  rw [List.findIdx?_eq_some_iff_getElem]
  refine ⟨hi, by simp [et, e], fun j hj => ?_⟩
  have q := h l[j] (List.mem_iff_getElem.2 ⟨j, by rw [List.length_take]; omega, List.getElem_take⟩)
  simpa using q
theorem plc_miss {l : List Tk} {i id : Nat} {t : Tk} (h : ∀ x ∈ l.take i, x.id ≠ id) (hx : l[i]? = some t) (e : t.id ≠ id) : ∀ x ∈ l.take (i + 1), x.id ≠ id := fun x hm => by
  rw [take_next hx] at hm
  rcases List.mem_append.1 hm with q | q
  · exact h x q
  · simp only [List.mem_cons, List.not_mem_nil, or_false] at q
    subst q
    exact e
/-- As Go tells it: -1 where there is none. -/
def plcI (l : List Tk) (id : Nat) : Int := match plc l id with | some k => (k : Int) | none => -1
theorem plcI_some {l : List Tk} {id k : Nat} (h : plc l id = some k) : plcI l id = (k : Int) := by unfold plcI; rw [h]
theorem plcI_none {l : List Tk} {id : Nat} (h : plc l id = none) : plcI l id = -1 := by unfold plcI; rw [h]
end T9
end

section
open Go.Shelf Go.RowKit Go.Lib Go.Sort

theorem addr_zero10 (a : Addr) : a.add 0 = a := by
  cases a
  unfold Addr.add
  split <;> simp_all
namespace T9
theorem btw_zero {l : List Tk} {h : Nat} {b : Bool} (e : ((l[0]?).map (·.rank)).getD Fl.pInf = h) (hm : Fl.midOk Fl.nInf h = b) : btw true l 0 = if b = true then (Fl.midW Fl.nInf h, 0) else (0, 100) := by
  subst hm
  unfold btw
  rw [if_neg (by decide), if_pos rfl, e]
theorem btw_none {l : List Tk} {after : Nat} (ha : after ≠ 0) (hp : plc l after = none) : btw true l after = (0, 93) := by
  unfold btw
  rw [if_neg (by decide), if_neg ha, hp]
theorem btw_some {l : List Tk} {after k lo h : Nat} {b : Bool} (ha : after ≠ 0) (hp : plc l after = some k) (el : ((l[k]?).map (·.rank)).getD 0 = lo) (e : ((l[k + 1]?).map (·.rank)).getD Fl.pInf = h) (hm : Fl.midOk lo h = b) : btw true l after = if b = true then (Fl.midW lo h, 0) else (0, 100) := by
  subst hm
  unfold btw
  rw [if_neg (by decide), if_neg ha, hp]
  simp only
  rw [el, e]
end T9

/-- What Between told: no list, or what lies between in some order of the list's tasks. -/
def BtwOk (ls : List T9.Li) (ts : List T9.Tk) (list after : Nat) (w : World) (e : Ending) (w' : World) : Prop :=
  ∃ (f : Nat) (er : Int), e = .returned (.tuple #[.float .f64 f, .int .i64 er]) ∧ Below w.heap.size w w' ∧ f < 18446744073709551616 ∧ (((T9.findL ls list).2 = false ∧ er = 91) ∨ ∃ l, T9.Ordd ts list l ∧ T9.btw true l after = (f, er))

end

section
open Go.Shelf Go.RowKit Go.Lib Go.Sort

/-- A state that lies typed. -/
structure SMT (m : MSt) (w : World) : Prop where
  l : Lies w 0 49 m.A (lcells m.ls)
  k : Lies w 0 32 m.A2 (tkcells m.ms)
  t : ∀ x ∈ m.ms, x.fineS w
  lc : m.ls.length ≤ m.c
  kc : m.ms.length ≤ m.c2
theorem SMT.sm {m : MSt} {w : World} (h : SMT m w) : SM m w := ⟨h.l.old, ⟨h.k.old, fun x hx => (h.t x hx).fine⟩, h.lc, h.kc⟩
theorem SMT.tch {m : MSt} {w w' : World} {B : Nat} {ts : List TypeId} (h : SMT m w) (hT : Tch B ts w w') (h1 : 49 ∉ ts) (h2 : 32 ∉ ts) (h3 : 9 ∉ ts) : SMT m w' := ⟨lies0_tch h.l hT h1, lies0_tch h.k hT h2, fun x hx => (h.t x hx).tch hT h3, h.lc, h.kc⟩
theorem SMT.stay {m : MSt} {w w' : World} (h : SMT m w) (hb : Below w.heap.size w w') : SMT m w' := h.tch (Tch.of_below hb (Nat.le_refl _) []) (by simp) (by simp) (by simp)
/-- What Spread told: the state in order, with the ranks of a list's tasks by their places. -/
def SprOk (s : T9.St) (list : Nat) (w : World) (e : Ending) (w' : World) : Prop :=
  ∃ (m : MSt) (l : List T9.Tk), e = .returned m.val ∧ SM m w' ∧ Below w.heap.size w w' ∧ T9.Ordd (T9.canon s).tasks list l ∧ m.st = ⟨(T9.canon s).lists, (T9.canon s).tasks.map (T9.spr l)⟩ ∧ SMT m w'
theorem canon_up (s : T9.St) : (T9.canon s).tasks.Pairwise fun x y => x.id < y.id := by
  have q := (Sr.canon_spec T9.woK s.tasks).1
  show ((Sr.canon T9.ltK s.tasks).map T9.norm).Pairwise _
  exact List.pairwise_map.2 (q.imp fun h => of_decide_eq_true h)
theorem lies_at_keep {w w' : World} {g : Nat} {t : TypeId} {xs : List Value} (h : Lies w w.heap.size t (some ⟨g, 0, none⟩) xs) (hb : w'.heap[g]? = w.heap[g]?) (hs : w.heap.size ≤ w'.heap.size) : Lies w' w'.heap.size t (some ⟨g, 0, none⟩) xs := fun hx => by
  obtain ⟨ad, e, hg, hc⟩ := h hx
  injection e with e
  subst e
  have hg' : g < w.heap.size := by
    rcases hg with q | ⟨_, _, q⟩
    · exact q
    · exact lt_of_block q
  refine ⟨_, rfl, .inl (Nat.lt_of_lt_of_le hg' hs), fun j u hu => ?_⟩
  rw [← hc j u hu, addr_at]
  simp only [World.cell?, hb]
theorem own_rank {w : World} {B g n c k v : Nat} {ms : List MTk} {mk : MTk} (h : w.ownsRow B 32 7 (.slice (some ⟨g, 0, none⟩) n c) n (tkcells ms)) (hn : ms.length = n) (hm : ms[k]? = some mk) (hk : k < n) : (w.setCell ⟨g, k * 7 + 4, none⟩ (.float .f64 v)).ownsRow B 32 7 (.slice (some ⟨g, 0, none⟩) n c) n (tkcells (ms.set k ⟨{ mk.t with rank := v }, mk.A, mk.c⟩)) := by
  rw [← tkcells_put hm (by decide : 4 < 7) (v := .float .f64 v) rfl]
  exact own_setCells (vs := [.float .f64 v]) h (by rw [tkcells_len, hn]; simp; omega)
theorem conv_float10 (i : Nat) (w : World) : (convert 3 29 (.int .i64 ((i : Int) + 1))).run Try.prog w = .ok (.float .f64 (Fl.flo (i + 1))) w := by
  have e : ((i : Int) + 1) = ((i + 1 : Nat) : Int) := by omega
  rw [e]
  simp [convert, run_underlying Try.underlying3, run_underlying Try.underlying29, Conv.intToFloat, Fl.flo]

end
end Go.Proofs.Ytnhpkcphgdkdiaa
