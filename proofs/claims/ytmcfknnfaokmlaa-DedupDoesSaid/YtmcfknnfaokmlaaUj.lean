/- Stage 16: deeds in memory, opened (written by wip/gen16lw.py). -/
import Derived.Test.YtmcfknnfaokmlaaUi
import Derived.Test.YtmcfknnfaokmlaaUg
namespace Go.Proofs.Ytmcfknnfaokmlaa
set_option maxRecDepth 100000
set_option linter.unusedSimpArgs false
section
open Go.ChangeShapes Go.WideShapes Go.ChangeAt Go.RowKit Go.Deep Go.Lib Go.Shelf
/-- A number that is taken, or asked for alone. -/
structure Dd16 where
  who : Nat
  id : Nat
  ask : Bool
instance : Inhabited Dd16 := ⟨⟨0, 0, false⟩⟩
def Dd16.ok (d : Dd16) : Prop := d.who < 18446744073709551616 ∧ d.id < 18446744073709551616
def encD16 (d : Dd16) : List Value := [.int .u64 (d.who : Int), .int .u64 (d.id : Int), .bool d.ask]
theorem encD16_len (d : Dd16) : (encD16 d).length = 3 := rfl
def DdL16 (w : World) (A : Option Addr) (ms : List Dd16) : Prop := Lies w w.heap.size 0 A (ms.flatMap encD16)
theorem DdL16.stay {w w' : World} {A : Option Addr} {ms : List Dd16} (h : DdL16 w A ms) (hb : Below w.heap.size w w') : DdL16 w' A ms := Lies.stay h hb
theorem DdL16.at_ {w : World} {A : Option Addr} {ms : List Dd16} (h : DdL16 w A ms) {k : Nat} (hk : k < ms.length) : ∃ ad d, A = some ad ∧ ms[k]? = some d ∧ w.cell? (ad.add (k * 3)) = some (.int .u64 (d.who : Int)) ∧ w.cell? ⟨(ad.add (k * 3)).block, (ad.add (k * 3)).off + 1, none⟩ = some (.int .u64 (d.id : Int)) ∧ w.cell? ⟨(ad.add (k * 3)).block, (ad.add (k * 3)).off + 2, none⟩ = some (.bool d.ask) := by
  have hx : ms[k]? = some ms[k] := List.getElem?_eq_getElem hk
  obtain ⟨ad, e, _, hc⟩ := h (fun q => by
    have : (ms.flatMap encD16).length = ms.length * 3 := cel_len fun x _ => encD16_len x
    rw [q] at this; simp at this; omega)
  have c : ∀ j u, j < 3 → (encD16 ms[k])[j]? = some u → w.cell? ((ad.add (k * 3)).add j) = some u := fun j u hj hu => by
    rw [addr_add]
    exact hc _ _ ((cel_at (f := encD16) (size := 3) (fun l _ => encD16_len l) hx hj).trans hu)
  exact ⟨ad, ms[k], e, hx, c 0 _ (by omega) rfl, c 1 _ (by omega) rfl, c 2 _ (by omega) rfl⟩
theorem three_cells16 {w : World} {g : Nat} {a b c : Value} {t : TypeId} {fr : Nat × Nat} (h : w.heap[g]? = some (.cells #[a, b, c] t fr)) : w.cell? ⟨g, 0, none⟩ = some a ∧ w.cell? ⟨g, 1, none⟩ = some b ∧ w.cell? ⟨g, 2, none⟩ = some c := by simp [World.cell?, h]
theorem new_three16 {w : World} {a b c : Value} {t : TypeId} {u : World} (h : w.alloc (.cells #[a, b, c] t) = u) : u.heap[w.heap.size]? = some (.cells #[a, b, c] t (0, 0)) ∧ Below w.heap.size w u ∧ u.heap.size = w.heap.size + 1 := by
  subst h
  exact ⟨heap_alloc_new w _, (Below.refl _ w).alloc (Nat.le_refl _) _, by simp⟩
section
variable {H : Type} {enc : TypeId × Value → H} {w : World} {base : Nat}
theorem Try.three16 : Try.prog.cellsOf 31 = 3 := by kernel_rfl
theorem Try.one16b : Try.prog.cellsOf 4 = 1 := by kernel_rfl
theorem cells_deed16 {fuel : Nat} {cs : List Value} {x : DataW H × List MemPlace} (h : DataW.trod enc Try.prog w 0 (fun _ => true) true fuel 31 cs = some x) :
    ∃ q : Dd16, cs = encD16 q ∧ q.ok := by
  obtain ⟨xs, n, _, _, hlen, hxl, hf⟩ := DataW.trod_struct Try.underlying31 h
  rw [Try.three16] at hlen
  match cs, hlen with
  | [c0, c1, c2], _ =>
    match xs, hxl with
    | [y0, y1, y2], _ =>
      have h0 : DataW.trod enc Try.prog w 0 (fun _ => true) true n 24 (([c0, c1, c2].drop 0).take (Try.prog.cellsOf 24)) = some y0 := hf 0 _ rfl
      rw [Try.one9u] at h0
      have h1 : DataW.trod enc Try.prog w 0 (fun _ => true) true n 24 (([c0, c1, c2].drop 1).take (Try.prog.cellsOf 24)) = some y1 := hf 1 _ rfl
      rw [Try.one9u] at h1
      have h2 : DataW.trod enc Try.prog w 0 (fun _ => true) true n 4 (([c0, c1, c2].drop 2).take (Try.prog.cellsOf 4)) = some y2 := hf 2 _ rfl
      rw [Try.one16b] at h2
      obtain ⟨k0, e0, _, w0⟩ := DataW.trod_int Try.underlying24 (h0 : DataW.trod enc Try.prog w 0 (fun _ => true) true n 24 [c0] = some y0)
      have g0 : c0 = _ := List.head_eq_of_cons_eq e0
      obtain ⟨i0, q0⟩ := Int.eq_ofNat_of_zero_le (wf_u64 w0).1
      have b0 := (wf_u64 w0).2
      subst g0; subst q0
      obtain ⟨k1, e1, _, w1⟩ := DataW.trod_int Try.underlying24 (h1 : DataW.trod enc Try.prog w 0 (fun _ => true) true n 24 [c1] = some y1)
      have g1 : c1 = _ := List.head_eq_of_cons_eq e1
      obtain ⟨i1, q1⟩ := Int.eq_ofNat_of_zero_le (wf_u64 w1).1
      have b1 := (wf_u64 w1).2
      subst g1; subst q1
      obtain ⟨i2, e2, _⟩ := DataW.trod_bool Try.underlying4 (h2 : DataW.trod enc Try.prog w 0 (fun _ => true) true n 4 [c2] = some y2)
      have g2 : c2 = _ := List.head_eq_of_cons_eq e2
      subst g2
      exact ⟨⟨i0, i1, i2⟩, rfl, by show i0 < _; omega, by show i1 < _; omega⟩
theorem open_deeds16 {v : Value} {d : DataW H} {ps : List MemPlace} (hval : Value.okWide Try.prog w .any base 23 v) (h : DataW.Trod enc Try.prog w 0 (fun _ => true) true 23 v d ps) :
    ∃ (A : Option Addr) (c : Nat) (xs : List Dd16), v = .slice A xs.length c ∧ xs.length ≤ c ∧ c ≤ maxLen ∧ DdL16 w A xs ∧ (∀ q ∈ xs, q.ok) := by
  obtain ⟨a0, len0, cap0, rfl⟩ := okWide_slice Try.underlying23 hval
  obtain ⟨fuel, hf⟩ := h
  rcases open_slice Try.underlying23 hf with ⟨hcs, _⟩ | ⟨a, len, cap, m, n, D, Pl, hcs, _, hl, hm, hmm, _, hi⟩
  · simp [Value.cells] at hcs
    obtain ⟨rfl, rfl, rfl⟩ := hcs
    exact ⟨none, 0, [], rfl, Nat.le_refl _, Nat.zero_le _, Lies.nil, by simp⟩
  · simp [Value.cells] at hcs
    obtain ⟨rfl, rfl, rfl⟩ := hcs
    simp only [if_true] at hmm
    subst hmm
    rw [Try.three16] at hi
    obtain ⟨ls, h1, h2, h3⟩ := open_rows9 (w := w) (E := encD16) (k := 3) (by omega) (fun x => encD16_len x) (p := fun q => q.ok) (a := a) (len := len0) (fun i hlt => by
      obtain ⟨cs', hc, ht⟩ := hi i (by omega)
      obtain ⟨q, rfl, hok⟩ := cells_deed16 ht
      obtain ⟨_, hcl, hat⟩ := World.cells?_some hc
      refine ⟨q, fun j u hu => ?_, hok⟩
      have hj : j < 3 := by
        rcases Nat.lt_or_ge j (encD16 q).length with z | z
        · exact z
        · rw [List.getElem?_eq_none z] at hu; cases hu
      have := hat j hj
      rw [addr_add] at this
      rw [this]; exact hu)
    exact ⟨some a, m, ls, by rw [h1], by omega, hm, h2, h3⟩
theorem open_lasts16 {v : Value} {d : DataW H} {ps : List MemPlace} (hval : Value.okWide Try.prog w .any base 22 v) (h : DataW.Trod enc Try.prog w 0 (fun _ => true) true 22 v d ps) :
    ∃ (A : Option Addr) (c : Nat) (xs : List La), v = .slice A xs.length c ∧ xs.length ≤ c ∧ c ≤ maxLen ∧ AL w A xs ∧ (∀ q ∈ xs, q.ok) := by
  obtain ⟨a0, len0, cap0, rfl⟩ := okWide_slice Try.underlying22 hval
  obtain ⟨fuel, hf⟩ := h
  rcases open_slice Try.underlying22 hf with ⟨hcs, _⟩ | ⟨a, len, cap, m, n, D, Pl, hcs, _, hl, hm, hmm, _, hi⟩
  · simp [Value.cells] at hcs
    obtain ⟨rfl, rfl, rfl⟩ := hcs
    exact ⟨none, 0, [], rfl, Nat.le_refl _, Nat.zero_le _, Lies.nil, by simp⟩
  · simp [Value.cells] at hcs
    obtain ⟨rfl, rfl, rfl⟩ := hcs
    simp only [if_true] at hmm
    subst hmm
    rw [Try.two15] at hi
    obtain ⟨ls, h1, h2, h3⟩ := open_rows9 (w := w) (E := encA) (k := 2) (by omega) (fun x => encA_len x) (p := fun q => q.ok) (a := a) (len := len0) (fun i hlt => by
      obtain ⟨cs', hc, ht⟩ := hi i (by omega)
      obtain ⟨q, rfl, hok⟩ := cells_last15 ht
      obtain ⟨_, hcl, hat⟩ := World.cells?_some hc
      refine ⟨q, fun j u hu => ?_, hok⟩
      have hj : j < 2 := by
        rcases Nat.lt_or_ge j (encA q).length with z | z
        · exact z
        · rw [List.getElem?_eq_none z] at hu; cases hu
      have := hat j hj
      rw [addr_add] at this
      rw [this]; exact hu)
    exact ⟨some a, m, ls, by rw [h1], by omega, hm, h2, h3⟩
theorem open_deed16 {v : Value} {d : DataW H} {ps : List MemPlace} (hval : Value.okWide Try.prog w .any base 31 v) (h : DataW.Trod enc Try.prog w 0 (fun _ => true) true 31 v d ps) :
    ∃ d : Dd16, v = .agg #[.int .u64 (d.who : Int), .int .u64 (d.id : Int), .bool d.ask] ∧ d.ok := by
  obtain ⟨cs, rfl, hsz⟩ := okWide_struct Try.underlying31 hval
  rw [Try.three16] at hsz
  obtain ⟨c0, c1, c2, rfl⟩ : ∃ c0 c1 c2, cs = #[c0, c1, c2] := by
    obtain ⟨l⟩ := cs
    match l, hsz with
    | [a, b, c], _ => exact ⟨a, b, c, rfl⟩
  obtain ⟨fuel, hf0⟩ := h
  obtain ⟨q, e, hok⟩ := cells_deed16 hf0
  have e : [c0, c1, c2] = encD16 q := e
  unfold encD16 at e
  injection e with e1 e
  injection e with e2 e
  injection e with e3 _
  subst e1 e2 e3
  exact ⟨q, rfl, hok⟩
end
end
end Go.Proofs.Ytmcfknnfaokmlaa
