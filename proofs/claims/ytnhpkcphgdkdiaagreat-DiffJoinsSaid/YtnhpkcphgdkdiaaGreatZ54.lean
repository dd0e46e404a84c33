/- The law LDiffJoins: the row. Every input, no condition. -/
import Derived.Test.YtnhpkcphgdkdiaaGreatZ33
import Derived.Test.YtnhpkcphgdkdiaaGreatZ53
import Derived.Test.YtnhpkcphgdkdiaaGreatZ52
import Derived.Lib.SmallJoins
import Derived.ProofKit
namespace Go.Proofs.YtnhpkcphgdkdiaaGreat
set_option linter.unusedSimpArgs false
set_option maxRecDepth 100000
section
open Go.ChangeShapes Go.WideShapes Go.ChangeAt Go.RowKit Go.Deep
theorem str_back9 (s : ByteArray) : str s.data.toList = s := by
 obtain ⟨d⟩ := s
 simp [str]
section
variable {H : Type} {enc : TypeId × Value → H} {w : World} {base : Nat}
theorem Tryz.twoLi9 : Tryz.prog.cellsOf 32 = 2 := by kernel_rfl
theorem Tryz.sevenTk9 : Tryz.prog.cellsOf 38 = 7 := by kernel_rfl
theorem Tryz.twoSt9 : Tryz.prog.cellsOf 25 = 2 := by kernel_rfl
theorem Tryz.one9u : Tryz.prog.cellsOf 30 = 1 := by kernel_rfl
theorem Tryz.one9s : Tryz.prog.cellsOf 9 = 1 := by kernel_rfl
theorem Tryz.one9b : Tryz.prog.cellsOf 4 = 1 := by kernel_rfl
theorem Tryz.one9f : Tryz.prog.cellsOf 35 = 1 := by kernel_rfl
theorem Tryz.one9g : Tryz.prog.cellsOf 36 = 1 := by kernel_rfl
theorem Tryz.one9l : Tryz.prog.cellsOf 22 = 1 := by kernel_rfl
theorem Tryz.one9k : Tryz.prog.cellsOf 23 = 1 := by kernel_rfl
theorem trod_float9 {P : Program} {b0 : Nat} {spare : Nat → Bool} {held : Bool} {fuel : Nat} {t : TypeId} {k : FloatKind} {cs : List Value} {x : DataW H × List MemPlace} (ht : P.underlying t = some (.float k)) (h : DataW.trod enc P w b0 spare held fuel t cs = some x) : ∃ n, cs = [.float k n] ∧ x = (.lit (.float k n), []) ∧ (Lit.float k n).wf = true := by
 cases fuel with
 | zero => simp [DataW.trod] at h
 | succ n =>
  unfold DataW.trod at h
  rw [ht] at h
  split at h <;> simp_all
theorem wf_f9 {b : Nat} (h : (Lit.float .f64 b).wf = true) : b < 18446744073709551616 := of_decide_eq_true h
theorem open_rows9 {α : Type} [Inhabited α] {E : α → List Value} {k : Nat} (hk : 0 < k) (hE : ∀ x, (E x).length = k) {p : α → Prop} {a : Addr} {len : Nat} (each : ∀ i, i < len → ∃ q : α, (∀ j u, (E q)[j]? = some u → w.cell? (a.add (i * k + j)) = some u) ∧ p q) :
  ∃ qs : List α, qs.length = len ∧ Lies w w.heap.size 0 (some a) (qs.flatMap E) ∧ ∀ q ∈ qs, p q := by
 obtain ⟨Q, hQ⟩ := choose_lt (α := α) (p := fun i q => (∀ j u, (E q)[j]? = some u → w.cell? (a.add (i * k + j)) = some u) ∧ p q) each
 refine ⟨(List.range len).map Q, by simp, fun hne => ?_, ?_⟩
 ·have cells : ∀ j u, (((List.range len).map Q).flatMap E)[j]? = some u → w.cell? (a.add j) = some u := by
   intro j u hu
   have hfl : (((List.range len).map Q).flatMap E).length = ((List.range len).map Q).length * k := cel_len fun x _ => hE x
   rw [List.length_map, List.length_range] at hfl
   have hj : j < len * k := by
    rcases Nat.lt_or_ge j (((List.range len).map Q).flatMap E).length with z | z
    ·omega
    ·rw [List.getElem?_eq_none z] at hu; cases hu
   have hd : j / k < len := (Nat.div_lt_iff_lt_mul hk).2 hj
   have hm : j % k < k := Nat.mod_lt _ hk
   have hjk : j / k * k + j % k = j := by rw [Nat.mul_comm]; exact Nat.div_add_mod j k
   have e : ((List.range len).map Q)[j / k]? = some (Q (j / k)) := by simp [hd]
   have f := cel_at (f := E) (size := k) (l := (List.range len).map Q) (fun x _ => hE x) e (j := j % k) hm
   rw [hjk] at f
   rw [f] at hu
   have := (hQ (j / k) hd).1 (j % k) u hu
   rwa [hjk] at this
  refine ⟨a, rfl, .inl ?_, cells⟩
  obtain ⟨u, hu⟩ : ∃ u, (((List.range len).map Q).flatMap E)[0]? = some u := by
   cases hq : ((List.range len).map Q).flatMap E with
   | nil => exact absurd hq hne
   | cons u _ => exact ⟨u, rfl⟩
  have := World.block_lt_of_cell? _ _ (cells 0 u hu)
  rwa [addr_block] at this
 ·intro q hq
  obtain ⟨i, hi2, rfl⟩ := List.mem_map.1 hq
  exact (hQ i (List.mem_range.1 hi2)).2
theorem flat_one9 (ts : List (List UInt8)) : (ts.flatMap fun x => [encS x]) = gcells ts := by
 induction ts with
 | nil => rfl
 | cons t ts ih => rw [List.flatMap_cons, ih]; rfl
theorem cells_tags9 {fuel : Nat} {v : Value} {x : DataW H × List MemPlace} (hf : DataW.trod enc Tryz.prog w 0 (fun _ => true) true fuel 36 [v] = some x) :
  ∃ (A : Option Addr) (c : Nat) (ts : List (List UInt8)), v = .slice A ts.length c ∧ ts.length ≤ c ∧ c ≤ maxLen ∧ GL w A ts := by
 rcases open_slice Tryz.underlying36 hf with ⟨hcs, _⟩ | ⟨a, len, cap, m, n, D, Pl, hcs, _, hl, hm, hmm, _, hi⟩
 ·simp at hcs
  subst hcs
  exact ⟨none, 0, [], rfl, Nat.le_refl _, Nat.zero_le _, GL.nil⟩
 ·simp at hcs
  subst hcs
  simp only [if_true] at hmm
  subst hmm
  rw [Tryz.one9s] at hi
  obtain ⟨ts, h1, h2, _⟩ := open_rows9 (w := w) (E := fun x => [encS x]) (k := 1) (by omega) (fun _ => rfl) (p := fun _ => True) (a := a) (len := len) (fun i hlt => by
   obtain ⟨cs', hc, ht⟩ := hi i (by omega)
   obtain ⟨hsz, hcl, hat⟩ := World.cells?_some hc
   obtain ⟨sb, e0, _, w0⟩ := DataW.trod_string Tryz.underlying9 ht
   subst e0
   refine ⟨sb.data.toList, fun j u hu => ?_, trivial⟩
   have hj : j < 1 := by
    rcases Nat.lt_or_ge j 1 with z | z
    ·exact z
    ·rw [List.getElem?_eq_none (by simpa using z)] at hu; cases hu
   obtain rfl : j = 0 := by omega
   have q := hat 0 (by omega)
   rw [addr_add] at q
   rw [q]
   simp only [List.getElem?_cons_zero, Option.some.injEq] at hu ⊢
   rw [← hu]
   show _ = Value.string (str sb.data.toList)
   rw [str_back9])
  rw [flat_one9] at h2
  exact ⟨some a, m, ts, by rw [h1], by omega, hm, h2⟩
theorem cells_list9 {fuel : Nat} {cs : List Value} {x : DataW H × List MemPlace} (h : DataW.trod enc Tryz.prog w 0 (fun _ => true) true fuel 32 cs = some x) :
  ∃ l : T9.Li, cs = encL l ∧ l.ok := by
 obtain ⟨xs, n, _, _, hlen, hxl, hf⟩ := DataW.trod_struct Tryz.underlying32 h
 rw [Tryz.twoLi9] at hlen
 match cs, hlen with
 | [c0, c1], _ =>
  match xs, hxl with
  | [y0, y1], _ =>
   have h0 : DataW.trod enc Tryz.prog w 0 (fun _ => true) true n 30 (([c0, c1].drop 0).take (Tryz.prog.cellsOf 30)) = some y0 := hf 0 _ rfl
   rw [Tryz.one9u] at h0
   have h1 : DataW.trod enc Tryz.prog w 0 (fun _ => true) true n 9 (([c0, c1].drop 1).take (Tryz.prog.cellsOf 9)) = some y1 := hf 1 _ rfl
   rw [Tryz.one9s] at h1
   obtain ⟨k, e0, _, w0⟩ := DataW.trod_int Tryz.underlying30 (h0 : DataW.trod enc Tryz.prog w 0 (fun _ => true) true n 30 [c0] = some y0)
   obtain ⟨sb, e1, _, _⟩ := DataW.trod_string Tryz.underlying9 (h1 : DataW.trod enc Tryz.prog w 0 (fun _ => true) true n 9 [c1] = some y1)
   have b := wf_u64 w0
   obtain ⟨i, hi⟩ := Int.eq_ofNat_of_zero_le b.1
   have g0 : c0 = _ := List.head_eq_of_cons_eq e0
   have g1 : c1 = .string (str sb.data.toList) := (List.head_eq_of_cons_eq e1).trans (by rw [str_back9])
   subst g0; subst g1; subst hi
   exact ⟨⟨i, sb.data.toList⟩, rfl, by show i < _; omega⟩
theorem cells_task9 {fuel : Nat} {cs : List Value} {x : DataW H × List MemPlace} (h : DataW.trod enc Tryz.prog w 0 (fun _ => true) true fuel 38 cs = some x) :
  ∃ m : MTk, cs = encK m ∧ m.t.ok ∧ m.fine w ∧ m.t.tags.length ≤ maxLen := by
 obtain ⟨xs, n, _, _, hlen, hxl, hf⟩ := DataW.trod_struct Tryz.underlying38 h
 rw [Tryz.sevenTk9] at hlen
 match cs, hlen with
 | [c0, c1, c2, c3, c4, c5, c6], _ =>
  match xs, hxl with
  | [y0, y1, y2, y3, y4, y5, y6], _ =>
   have h0 : DataW.trod enc Tryz.prog w 0 (fun _ => true) true n 30 (([c0, c1, c2, c3, c4, c5, c6].drop 0).take (Tryz.prog.cellsOf 30)) = some y0 := hf 0 _ rfl
   rw [Tryz.one9u] at h0
   have h1 : DataW.trod enc Tryz.prog w 0 (fun _ => true) true n 30 (([c0, c1, c2, c3, c4, c5, c6].drop 1).take (Tryz.prog.cellsOf 30)) = some y1 := hf 1 _ rfl
   rw [Tryz.one9u] at h1
   have h2 : DataW.trod enc Tryz.prog w 0 (fun _ => true) true n 9 (([c0, c1, c2, c3, c4, c5, c6].drop 2).take (Tryz.prog.cellsOf 9)) = some y2 := hf 2 _ rfl
   rw [Tryz.one9s] at h2
   have h3 : DataW.trod enc Tryz.prog w 0 (fun _ => true) true n 4 (([c0, c1, c2, c3, c4, c5, c6].drop 3).take (Tryz.prog.cellsOf 4)) = some y3 := hf 3 _ rfl
   rw [Tryz.one9b] at h3
   have h4 : DataW.trod enc Tryz.prog w 0 (fun _ => true) true n 35 (([c0, c1, c2, c3, c4, c5, c6].drop 4).take (Tryz.prog.cellsOf 35)) = some y4 := hf 4 _ rfl
   rw [Tryz.one9f] at h4
   have h5 : DataW.trod enc Tryz.prog w 0 (fun _ => true) true n 35 (([c0, c1, c2, c3, c4, c5, c6].drop 5).take (Tryz.prog.cellsOf 35)) = some y5 := hf 5 _ rfl
   rw [Tryz.one9f] at h5
   have h6 : DataW.trod enc Tryz.prog w 0 (fun _ => true) true n 36 (([c0, c1, c2, c3, c4, c5, c6].drop 6).take (Tryz.prog.cellsOf 36)) = some y6 := hf 6 _ rfl
   rw [Tryz.one9g] at h6
   obtain ⟨k0, e0, _, w0⟩ := DataW.trod_int Tryz.underlying30 (h0 : DataW.trod enc Tryz.prog w 0 (fun _ => true) true n 30 [c0] = some y0)
   have g0 : c0 = _ := List.head_eq_of_cons_eq e0
   obtain ⟨i0, q0⟩ := Int.eq_ofNat_of_zero_le (wf_u64 w0).1
   have b0 := (wf_u64 w0).2
   subst g0; subst q0
   obtain ⟨k1, e1, _, w1⟩ := DataW.trod_int Tryz.underlying30 (h1 : DataW.trod enc Tryz.prog w 0 (fun _ => true) true n 30 [c1] = some y1)
   have g1 : c1 = _ := List.head_eq_of_cons_eq e1
   obtain ⟨i1, q1⟩ := Int.eq_ofNat_of_zero_le (wf_u64 w1).1
   have b1 := (wf_u64 w1).2
   subst g1; subst q1
   obtain ⟨sb, e2, _, _⟩ := DataW.trod_string Tryz.underlying9 (h2 : DataW.trod enc Tryz.prog w 0 (fun _ => true) true n 9 [c2] = some y2)
   have g2 : c2 = .string (str sb.data.toList) := (List.head_eq_of_cons_eq e2).trans (by rw [str_back9])
   subst g2
   obtain ⟨i3, e3, _⟩ := DataW.trod_bool Tryz.underlying4 (h3 : DataW.trod enc Tryz.prog w 0 (fun _ => true) true n 4 [c3] = some y3)
   have g3 : c3 = _ := List.head_eq_of_cons_eq e3
   subst g3
   obtain ⟨i4, e4, _, w4⟩ := trod_float9 Tryz.underlying35 (h4 : DataW.trod enc Tryz.prog w 0 (fun _ => true) true n 35 [c4] = some y4)
   have g4 : c4 = _ := List.head_eq_of_cons_eq e4
   have b4 := wf_f9 w4
   subst g4
   obtain ⟨i5, e5, _, w5⟩ := trod_float9 Tryz.underlying35 (h5 : DataW.trod enc Tryz.prog w 0 (fun _ => true) true n 35 [c5] = some y5)
   have g5 : c5 = _ := List.head_eq_of_cons_eq e5
   have b5 := wf_f9 w5
   subst g5
   obtain ⟨A, c, ts, e6, hc, hm, hL⟩ := cells_tags9 (h6 : DataW.trod enc Tryz.prog w 0 (fun _ => true) true n 36 [c6] = some y6)
   subst e6
   exact ⟨⟨⟨i0, i1, sb.data.toList, i3, i4, i5, ts⟩, A, c⟩, rfl, ⟨by show i0 < _; omega, by show i1 < _; omega, b4, b5⟩, ⟨hL, hc⟩, Nat.le_trans hc hm⟩
theorem cells_lists9 {fuel : Nat} {v : Value} {x : DataW H × List MemPlace} (hf : DataW.trod enc Tryz.prog w 0 (fun _ => true) true fuel 22 [v] = some x) :
  ∃ (A : Option Addr) (c : Nat) (ls : List (T9.Li)), v = .slice A ls.length c ∧ ls.length ≤ c ∧ Lies w w.heap.size 0 A (ls.flatMap encL) ∧ ∀ q ∈ ls, q.ok := by
 rcases open_slice Tryz.underlying22 hf with ⟨hcs, _⟩ | ⟨a, len, cap, m, n, D, Pl, hcs, _, hl, hm, hmm, _, hi⟩
 ·simp at hcs
  subst hcs
  exact ⟨none, 0, [], rfl, Nat.le_refl _, Lies.nil, by simp⟩
 ·simp at hcs
  subst hcs
  simp only [if_true] at hmm
  subst hmm
  rw [Tryz.twoLi9] at hi
  obtain ⟨ls, h1, h2, h3⟩ := open_rows9 (w := w) (E := encL) (k := 2) (by omega) (fun x => encL_len x) (p := fun q => q.ok) (a := a) (len := len) (fun i hlt => by
   obtain ⟨cs', hc, ht⟩ := hi i (by omega)
   obtain ⟨q, rfl, hok⟩ := cells_list9 ht
   obtain ⟨_, hcl, hat⟩ := World.cells?_some hc
   refine ⟨q, fun j u hu => ?_, hok⟩
   have hj : j < 2 := by
    rcases Nat.lt_or_ge j (encL q).length with z | z
    ·exact z
    ·rw [List.getElem?_eq_none z] at hu; cases hu
   have := hat j hj
   rw [addr_add] at this
   rw [this]; exact hu)
  exact ⟨some a, m, ls, by rw [h1], by omega, h2, h3⟩
theorem cells_tasks9 {fuel : Nat} {v : Value} {x : DataW H × List MemPlace} (hf : DataW.trod enc Tryz.prog w 0 (fun _ => true) true fuel 23 [v] = some x) :
  ∃ (A : Option Addr) (c : Nat) (ls : List (MTk)), v = .slice A ls.length c ∧ ls.length ≤ c ∧ Lies w w.heap.size 0 A (ls.flatMap encK) ∧ ∀ q ∈ ls, q.t.ok ∧ q.fine w ∧ q.t.tags.length ≤ maxLen := by
 rcases open_slice Tryz.underlying23 hf with ⟨hcs, _⟩ | ⟨a, len, cap, m, n, D, Pl, hcs, _, hl, hm, hmm, _, hi⟩
 ·simp at hcs
  subst hcs
  exact ⟨none, 0, [], rfl, Nat.le_refl _, Lies.nil, by simp⟩
 ·simp at hcs
  subst hcs
  simp only [if_true] at hmm
  subst hmm
  rw [Tryz.sevenTk9] at hi
  obtain ⟨ls, h1, h2, h3⟩ := open_rows9 (w := w) (E := encK) (k := 7) (by omega) (fun x => encK_len x) (p := fun q => q.t.ok ∧ q.fine w ∧ q.t.tags.length ≤ maxLen) (a := a) (len := len) (fun i hlt => by
   obtain ⟨cs', hc, ht⟩ := hi i (by omega)
   obtain ⟨q, rfl, hok⟩ := cells_task9 ht
   obtain ⟨_, hcl, hat⟩ := World.cells?_some hc
   refine ⟨q, fun j u hu => ?_, hok⟩
   have hj : j < 7 := by
    rcases Nat.lt_or_ge j (encK q).length with z | z
    ·exact z
    ·rw [List.getElem?_eq_none z] at hu; cases hu
   have := hat j hj
   rw [addr_add] at this
   rw [this]; exact hu)
  exact ⟨some a, m, ls, by rw [h1], by omega, h2, h3⟩
theorem open_state9 {v : Value} {d : DataW H} {ps : List MemPlace} (hval : Value.okWide Tryz.prog w .any base 25 v) (h : DataW.Trod enc Tryz.prog w 0 (fun _ => true) true 25 v d ps) :
  ∃ m : MSt, v = m.val ∧ SM m w ∧ m.st.ok ∧ m.far := by
 obtain ⟨cs, rfl, hsz⟩ := okWide_struct Tryz.underlying25 hval
 rw [Tryz.twoSt9] at hsz
 obtain ⟨c0, c1, rfl⟩ : ∃ c0 c1, cs = #[c0, c1] := by
  obtain ⟨l⟩ := cs
  match l, hsz with
  | [a, b], _ => exact ⟨a, b, rfl⟩
 obtain ⟨fuel, hf⟩ := h
 obtain ⟨xs, n, _, _, _, hxl, hf2⟩ := DataW.trod_struct Tryz.underlying25 hf
 match xs, hxl with
 | [y0, y1], _ =>
  have h0 : DataW.trod enc Tryz.prog w 0 (fun _ => true) true n 22 (((Value.agg #[c0, c1]).cells.toList.drop 0).take (Tryz.prog.cellsOf 22)) = some y0 := hf2 0 _ rfl
  have h1 : DataW.trod enc Tryz.prog w 0 (fun _ => true) true n 23 (((Value.agg #[c0, c1]).cells.toList.drop 1).take (Tryz.prog.cellsOf 23)) = some y1 := hf2 1 _ rfl
  rw [Tryz.one9l] at h0
  rw [Tryz.one9k] at h1
  obtain ⟨A, c, ls, e0, hc, hL, hp⟩ := cells_lists9 (v := c0) h0
  obtain ⟨A2, c2, ms, e1, hc2, hK, hq⟩ := cells_tasks9 (v := c1) h1
  subst e0; subst e1
  refine ⟨⟨ls, A, c, ms, A2, c2⟩, rfl, ⟨hL, ⟨hK, fun m hm => (hq m hm).2.1⟩, hc, hc2⟩, ⟨hp, fun t ht => ?_⟩, fun m hm => (hq m hm).2.2⟩
  obtain ⟨m, hm, rfl⟩ := List.mem_map.1 ht
  exact (hq m hm).1
end
end
section
open Go.ChangeShapes Go.WideShapes Go.ChangeAt Go.RowKit
theorem diffJoins_lifted (os : Os) (started : os.Started) (H : Type) (enc : TypeId × Value → H) :
  ReturnsInHanded {} Tryz.checked os 3 .any (Rows.diffJoinsSpec.pre6 enc Tryz.prog Tryz.f3 Rows.diffJoinsRow.domain false) (Rows.diffJoinsSpec.post enc Tryz.prog Tryz.f3 false true false false) := by
 refine returnsInHanded_of_change (C := Tryz.checked) Tryz.own2 started (by kernel_rfl) Tryz.func3
  (ChangeSpec.witness6 (enc := enc) (C := Tryz.checked) false ⟨#[], #[.agg #[.slice none 0 0, .slice none 0 0], .agg #[.slice none 0 0, .slice none 0 0], .agg #[.slice none 0 0, .slice none 0 0]], []⟩ 8 (by kernel_rfl) (by kernel_rfl) (by kernel_rfl) (by kernel_rfl)) ?_
 intro W base args ds gs before hval0 hW hcnd _
 have hval : ∀ (j : Nat) t v, Tryz.f3.params[j]? = some t → args[j]? = some v → Value.okWide Tryz.prog W .any base t v := hval0
 have hW' := hW
 obtain ⟨p, q, hA0, hV, rfl, hfz, hnd⟩ := hW
 have hA : DataW.TrodAll enc Tryz.prog W 0 (fun _ => true) true Tryz.f3.params.toList args.toList ds p := hA0
 rw [Tryz.params3] at hA hval
 obtain ⟨v0, v1, v2, d0, d1, d2, p0, p1, p2, rfl, rfl, hps, h0, h1, h2⟩ := trodAll_three hA
 obtain ⟨m0, e0, hs0, ho0, hf0⟩ := open_state9 (hval 0 25 v0 rfl rfl) h0
 subst e0
 obtain ⟨m1, e1, hs1, ho1, hf1⟩ := open_state9 (hval 1 25 v1 rfl rfl) h1
 subst e1
 obtain ⟨m2, e2, hs2, ho2, hf2⟩ := open_state9 (hval 2 25 v2 rfl rfl) h2
 subst e2
 refine (diffJoins_c hs0 ho0 hf0 hs1 ho1 hf1 hs2 ho2 hf2).mono fun e W' ⟨he, hw⟩ => ?_
 subst he
 refine ⟨_, rfl, post_law (tb := 4) Tryz.laidOut2 ?_ rfl (by kernel_rfl) Tryz.underlying4 hW' hw ?_ ?_ ?_⟩
 ·intro t ht
  rw [Tryz.params3] at ht
  simp at ht
  rcases ht with rfl | rfl | rfl
  all_goals exact ⟨by kernel_rfl, of_decide_eq_true (by kernel_rfl)⟩
 all_goals
  obtain ⟨rfl, rfl⟩ := trodVars_none hV
  rfl
theorem diffJoins_holds : Rows.DiffJoinsSaid :=
 OpenClaim.holds_of_wide 3 Tryz.f3 rfl rfl rfl rfl rfl rfl rfl ⟨rfl, rfl, rfl, rfl, rfl⟩ rfl rfl rfl rfl rfl (by kernel_rfl) Tryz.func3 (by kernel_rfl)
  (of_decide_eq_true (by kernel_rfl)) (by unfold Func.isWrapper; first | (rw [if_pos (by decide +kernel)]; kernel_rfl) | (rw [if_neg (by decide +kernel)]; exact ⟨rfl, rfl⟩))
  (fun os started H enc _ => diffJoins_lifted os started H enc)
end
end Go.Proofs.YtnhpkcphgdkdiaaGreat
