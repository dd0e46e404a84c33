/- Numbers in memory; the document's own N onto bytes without spare room; its Slot, its SameNumbers. Contracts of the document's own Slot and SameNumbers. -/
import Derived.Test.YtbfkjneidabijaaSu
import Derived.Test.YtbfkjneidabijaaAp
import Derived.Test.YtbfkjneidabijaaRw
import Derived.Test.YtbfkjneidabijaaCs
import Derived.Lib.SlBytesConst
import Derived.RegionTactic
namespace Go.Proofs.Ytbfkjneidabijaa
open Go.RowKit
set_option maxRecDepth 100000

theorem Try.infoU64 : (Try.prog.info? 48).map (fun i => (i.zero, i.size, i.bytes)) = some (some (.int .u64 0), 1, 8) := by kernel_rfl

/-- Numbers' cells. -/
def ncell (n : Nat) : Value := .int .u64 (n : Int)
def ncells (l : List Nat) : List Value := l.map ncell
theorem ncells_len (l : List Nat) : (ncells l).length = l.length := by simp [ncells]
theorem ncells_app (l m : List Nat) : ncells (l ++ m) = ncells l ++ ncells m := by simp [ncells]
theorem ncells_one (l : List Nat) : ∀ u ∈ ncells l, u.oneCell' = true := by
  intro u hu
  simp only [ncells, List.mem_map] at hu
  obtain ⟨n, _, rfl⟩ := hu
  rfl
theorem Lies.num {w : World} {B : Nat} {t : TypeId} {A : Option Addr} {l : List Nat} (h : Lies w B t A (ncells l)) {k : Nat} (hk : k < l.length) : ∃ ad, A = some ad ∧ w.cell? (ad.add k) = some (.int .u64 (l[k] : Int)) := by
  obtain ⟨ad, e, hc⟩ := h.at_ (k := k) (by rw [ncells_len]; exact hk)
  exact ⟨ad, e, by rw [hc]; simp [ncells, ncell]⟩
theorem ncells_nats {ns : List Int} (h : ∀ n ∈ ns, 0 ≤ n) : ns.map (Value.int .u64) = ncells (ns.map Int.toNat) := by
  unfold ncells
  rw [List.map_map]
  apply List.map_congr_left
  intro n hn
  have := h n hn
  show Value.int .u64 n = Value.int .u64 ((n.toNat : Nat) : Int)
  rw [Int.toNat_of_nonneg this]

section
variable {P : Program} (w : World)
/-- An append onto a slice without spare room: a new row. -/
theorem wpList_new {ops : Array Oper} {rest : List Oper} {o : Oper} {a : Act} {Q : Exit → Act → World → Prop} (hgd : o.guard = none) (s x : Operand) (t : TypeId)
    (ho : o.op = .call { callee := .builtin .append, args := #[s, x], argTypes := #[t, t] })
    (base : Nat) (e : TypeId) (i : TypeInfo) (z : Value) (size bytes : Nat) (ht : P.underlying t = some (.slice e)) (hi : P.info? e = some i) (hz : i.zero = some z)
    (hsize : i.size = size) (hby : i.bytes = bytes) (hzs : z.cells.size = size)
    (B0 : Nat) (t0 : TypeId) (A0 : Option Addr) (n : Nat) (olds : List Value) (hs : a.eval s = .slice A0 n n) (hl0 : olds.length = n * size) (hL0 : Lies w B0 t0 A0 olds) (hnil : A0 = none → n = 0)
    (ad : Addr) (m c : Nat) (news : List Value) (hx : a.eval x = .slice (some ad) m c) (hl : news.length = m * size) (hc : ∀ j u, news[j]? = some u → w.cell? (ad.add j) = some u) (h1 : ∀ u ∈ news, u.oneCell' = true) (hm : 0 < m)
    (h63 : n + m ≤ maxLen) (hbytes : (n + m) * bytes ≤ 140737488355328) (hbase : base ≤ w.heap.size)
    (h : ∀ v' w', w'.ownsRow base e size v' (n + m) (olds ++ news) → w.grownBy w' none → wpList P ops Q rest (a.put o.dst v') w') : wpList P ops Q (o :: rest) a w :=
  wpList_plain hgd fun K hK => by
    obtain ⟨v', w', hrun, h2, h3, _⟩ := run_app_new (P := P) w base t o.type e i z size bytes ht hi hz hsize hby hzs B0 t0 A0 n olds hl0 hL0 hnil ad m c news hl hc h1 hm h63 hbytes hbase
    unfold Oper.wp execOp
    simp only [ho, resolve, invoke, builtin, Sem.run_bind, Sem.run_pure, Result.andThen_ok, List.map_toArray, List.map_cons, List.map_nil, hs, hx, hrun]
    exact hK _ _ (h v' w' h2 h3)
end

theorem cell1 {w : World} {b : UInt8} {x : Int} (hx : x = (b.toNat : Int)) {g : Nat} (hg : g = w.heap.size) : ∀ (j : Nat) (u : Value), (bcells [b])[j]? = some u → (w.alloc (.cells #[.int .u8 x] 5)).cell? ((⟨g, 0, none⟩ : Addr).add j) = some u := by
  intro j u hu
  obtain ⟨ad, e, _, hc⟩ := (lies1 (w := w) hx hg) (by simp [bcells])
  injection e with e
  subst e
  exact hc j u hu

namespace Su
def pre (g : Nat) (l : List Nat) (j : Nat) : List UInt8 := [70, 83] ++ Cd.num g ++ Cd.num l.length ++ (l.take j).flatMap Cd.num
theorem pre_all (g : Nat) (l : List Nat) : pre g l l.length = body g l := by unfold pre body; rw [List.take_length]
theorem pre_next (g : Nat) {l : List Nat} {j : Nat} (h : j < l.length) : pre g l (j + 1) = pre g l j ++ Cd.num l[j] := by
  unfold pre
  rw [take_next (List.getElem?_eq_getElem h), List.flatMap_append]
  simp
theorem pre_len (g : Nat) {l : List Nat} (h : l.length ≤ 4) (j : Nat) : (pre g l j).length ≤ 56 := by
  have h1 := num_len g
  have h2 := num_len l.length
  have h3 := nums_len (l.take j)
  have h4 : (l.take j).length ≤ 4 := by rw [List.length_take]; omega
  unfold pre
  simp only [List.length_append, List.length_cons, List.length_nil]
  omega
end Su

/-- A number of 64 bits. -/
def U64 (n : Nat) : Prop := n < 18446744073709551616
theorem U64.int {n : Nat} (h : U64 n) : (n : Int) < 18446744073709551616 := by unfold U64 at h; omega
theorem U64.of {n : Nat} (h : n < 18446744073709551616) : U64 n := h

end Go.Proofs.Ytbfkjneidabijaa
