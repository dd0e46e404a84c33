/- Stage 10: rank.At; awake. -/
import Derived.Test.YtahemcpeejgkeaaKg
import Derived.Test.YtahemcpeejgkeaaTac
namespace Go.Proofs.Ytahemcpeejgkeaa
open Go.Shelf Go.RowKit Go.Lib Go.Sort
set_option maxRecDepth 100000

theorem run_buildSlice_two {P : Program} (w : World) (t e : TypeId) (cs ds : Array Value) (ie : TypeInfo) (z : Value) (hu : P.underlying t = some (.slice e)) (hie : P.info? e = some ie) (hz : ie.zero = some z) (hs : ie.size = cs.size) (hd : ie.size = ds.size) (h0 : 0 < cs.size) (hm : cs.size ≤ 1000) :
    (Instr.buildSlice t 2 #[(0, .agg cs), (1, .agg ds)]).run P w = .ok (.slice (some ⟨w.heap.size, 0, none⟩) 2 2) (w.alloc (.cells (cs ++ ds) e)) := by
  refine run_buildSlice w t e 2 _ (cs ++ ds) ie z hu hie hz (by rw [hs]; show ¬ 2 * cs.size > 16777216; omega) (by rw [hs]; omega) ?_
  have q := Great.fill_whole (s := ie.size) (by rw [hs]; exact h0) [Value.agg cs, Value.agg ds] ((Array.range (2 * ie.size)).map (z.cells[· % z.cells.size]!)) (fun v hv => by
    rcases List.mem_cons.1 hv with rfl | hv
    · exact hs.symm
    · rw [List.mem_singleton] at hv; subst hv; exact hd.symm) (by simp)
  refine Eq.trans ?_ (congrArg some (show (cs.toList ++ ds.toList).toArray = cs ++ ds by apply Array.ext'; simp))
  simpa [Value.cells] using q

/-- Where a task stands in the order of its list. -/
def AtOk (ts : List T9.Tk) (id : Nat) (w : World) (e : Ending) (w' : World) : Prop :=
  ∃ r : Int, e = .returned (.int .i64 r) ∧ Below w.heap.size w w' ∧ (((T9.findK ts id).2 = false ∧ r = -1) ∨ ((T9.findK ts id).2 = true ∧ ∃ l, T9.Ordd ts (T9.findK ts id).1.list l ∧ r = T9.plcI l id))

set_option linter.unusedSimpArgs false in
set_option maxHeartbeats 4000000 in
set_option maxRecDepth 100000 in
theorem rankAt_c {A A2 : Option Addr} {n1 n2 c c2 : Nat} {ms : List MTk} {w : World} (hk : KL w A2 ms) (e2 : n2 = ms.length) (hs : n2 ≤ 1000000) (hsh : ∀ m ∈ ms, m.t.short) (hr : ∀ m ∈ ms, m.t.rank < 18446744073709551616) (id : Nat) :
    Calls Try.prog 13 #[.agg #[.slice A n1 c, .slice A2 n2 c2], .int .u64 (id : Int)] w (AtOk (tks ms) id w) := by
  obtain ⟨w1, hw1⟩ : ∃ u, w.alloc (.cells #[.slice A n1 c, .slice A2 n2 c2] 25) = u := ⟨_, rfl⟩
  obtain ⟨pb, b1, z1⟩ := new_two hw1
  have PB := Lib.hid pb
  have B1 := Lib.hid b1
  have FC := Lib.hid (find_c (A := A) (n1 := n1) (c := c) (c2 := c2) (hk.stay b1) e2 hs hsh id)
  have HK := Lib.hid (hk.stay b1)
  have HR := Lib.hid hr
  have SH : Hid (∀ m ∈ ms, m.t.tags.length ≤ 1000000) := Lib.hid fun m hm => (hsh m hm).2.2
  have E2 := Lib.hid e2
  have HS := Lib.hid hs
  obtain ⟨p0, p1⟩ := two_cells pb
  clear hk e2 hs hsh hr pb b1 z1
  obtain ⟨is, his⟩ : ∃ b, (T9.findK (tks ms) id).2 = b := ⟨_, rfl⟩
  have IS := Lib.hid his
  unfold FKOk at FC
  rw [his] at FC
  clear his
  go_enter Try.func13, Try.ntmps13
  go_wp2_with fail
  refine FC.out.mono ?_
  rintro e wa ⟨⟨tk, A5, c5⟩, rfl, htk, hfm, ha⟩
  unfold encK
  dsimp only at htk ⊢
  have TK := Lib.hid htk
  obtain ⟨w2, hw2⟩ : ∃ u, wa.alloc (.cells #[.int .u64 (tk.id : Int), .int .u64 (tk.list : Int), .string (str tk.title), .bool tk.done, .float .f64 tk.rank, .float .f64 tk.est, .slice A5 tk.tags.length c5] 36) = u := ⟨_, rfl⟩
  obtain ⟨lb, b2, z2⟩ := new_seven hw2
  have h2 : Below w1.heap.size w1 w2 := ha.trans (b2.mono ha.size)
  obtain ⟨l0, l1, l2, l3, l4, l5, l6⟩ := seven_cells lb
  have B2 := Lib.hid (B1.out.trans (h2.mono B1.out.size))
  have H2 := Lib.hid h2
  have q0 := (two_cells ((h2.block w.heap.size (lt_of_block PB.out)).trans PB.out)).1
  have q1 := (two_cells ((h2.block w.heap.size (lt_of_block PB.out)).trans PB.out)).2
  clear h2 p0 p1 ha hfm htk lb b2 z2
  cases is with
  | false =>
    go_wp2_with fail
    go_ret
    exact ⟨-1, rfl, B2.out, .inl ⟨IS.out, rfl⟩⟩
  | true =>
    have OC := Lib.hid (order_c (A := A) (n1 := n1) (c := c) (c2 := c2) (HK.out.stay H2.out) E2.out HS.out SH.out HR.out tk.list)
    go_wp2_with fail
    refine OC.out.mono ?_
    rintro e w3 ⟨A3, c3, xs, rfl, hk3, hc3, ho3, h3, _, _⟩
    have B3 := Lib.hid (B2.out.trans (h3.mono B2.out.size))
    have O3 := Lib.hid ho3
    obtain ⟨n3, hn3⟩ : ∃ n, n = xs.length := ⟨_, rfl⟩
    have N3 := Lib.hid hn3
    have nx : n3 ≤ 1000000 := by
      have q := ho3.perm.length_eq
      rw [tks_len, ← hn3] at q
      rw [q]
      exact Nat.le_trans (List.length_filter_le _ _) (by rw [tks_len, ← E2.out]; exact HS.out)
    have PL := Lib.hid (rankPlace_c (c := c3) (id := id) hk3 hn3 nx)
    rw [← hn3]
    clear hk3 hc3 ho3 h3 hn3 q0 q1
    go_wp2_with fail
    refine PL.out.mono ?_
    rintro e w4 ⟨rfl, h4⟩
    have B4 := Lib.hid (B3.out.trans (h4.mono B3.out.size))
    clear h4
    go_wp2
    go_ret
    exact ⟨_, rfl, B4.out, .inr ⟨IS.out, tks xs, by rw [← TK.out]; exact O3.out, rfl⟩⟩

@[go_sem] theorem buildL10 (w : World) : (Instr.build 45 #[(0, .int .u64 1), (1, .string ⟨#[108]⟩)]).run Try.prog w = .ok (.agg #[.int .u64 1, .string ⟨#[108]⟩]) w := run_build w 45 _ _ (by kernel_rfl)
@[go_sem] theorem buildKa10 (w : World) : (Instr.build 36 #[(0, .int .u64 1), (1, .int .u64 1), (2, .string ⟨#[97]⟩), (4, .float .f64 4607182418800017408)]).run Try.prog w = .ok (.agg #[.int .u64 1, .int .u64 1, .string ⟨#[97]⟩, .bool false, .float .f64 4607182418800017408, .float .f64 0, .slice none 0 0]) w := run_build w 36 _ _ (by kernel_rfl)
@[go_sem] theorem buildKb10 (w : World) : (Instr.build 36 #[(0, .int .u64 2), (1, .int .u64 1), (2, .string ⟨#[98]⟩), (4, .float .f64 4611686018427387904)]).run Try.prog w = .ok (.agg #[.int .u64 2, .int .u64 1, .string ⟨#[98]⟩, .bool false, .float .f64 4611686018427387904, .float .f64 0, .slice none 0 0]) w := run_build w 36 _ _ (by kernel_rfl)
@[go_sem] theorem buildS10 (A A2 : Option Addr) (n c n2 c2 : Nat) (w : World) : (Instr.build 25 #[(0, .slice A n c), (1, .slice A2 n2 c2)]).run Try.prog w = .ok (.agg #[.slice A n c, .slice A2 n2 c2]) w := run_build w 25 _ _ (by kernel_rfl)
theorem buildSlL10 (w : World) : (Instr.buildSlice 22 1 #[(0, .agg #[.int .u64 1, .string ⟨#[108]⟩])]).run Try.prog w = .ok (.slice (some ⟨w.heap.size, 0, none⟩) 1 1) (w.alloc (.cells #[.int .u64 1, .string ⟨#[108]⟩] 45)) := by
  obtain ⟨i0, hi, hz0, hz1, hz2⟩ := info_parts Try.infoLi9
  exact run_buildSlice_one w 22 45 #[.int .u64 1, .string ⟨#[108]⟩] i0 _ Try.underlying22 hi hz0 hz1 (by decide) (by decide)
def ka10 : MTk := ⟨⟨1, 1, [97], false, 4607182418800017408, 0, []⟩, none, 0⟩
def kb10 : MTk := ⟨⟨2, 1, [98], false, 4611686018427387904, 0, []⟩, none, 0⟩
theorem buildSlT10 (w : World) : (Instr.buildSlice 23 2 #[(0, .agg #[.int .u64 1, .int .u64 1, .string ⟨#[97]⟩, .bool false, .float .f64 4607182418800017408, .float .f64 0, .slice none 0 0]), (1, .agg #[.int .u64 2, .int .u64 1, .string ⟨#[98]⟩, .bool false, .float .f64 4611686018427387904, .float .f64 0, .slice none 0 0])]).run Try.prog w = .ok (.slice (some ⟨w.heap.size, 0, none⟩) 2 2) (w.alloc (.cells (tkcells [ka10, kb10]).toArray 36)) := by
  obtain ⟨i0, hi, hz0, hz1, hz2⟩ := info_parts Try.infoTk9
  exact run_buildSlice_two w 23 36 (encK ka10).toArray (encK kb10).toArray i0 _ Try.underlying23 hi hz0 hz1 hz1 (by show 0 < 7; omega) (by show 7 ≤ _; omega)
theorem str_ab10 : Sr.Str T9.ltR [ka10.t, kb10.t] := by
  refine List.pairwise_cons.2 ⟨fun x hx => ?_, List.pairwise_singleton _ _⟩
  rw [List.mem_singleton] at hx
  subst hx
  decide +kernel
theorem ord_ab10 {l : List T9.Tk} (h : T9.Ordd (tks [ka10, kb10]) 1 l) : l = [ka10.t, kb10.t] := by
  refine h.is ?_ str_ab10 (List.Perm.refl _)
  refine List.pairwise_cons.2 ⟨fun x hx => ?_, List.pairwise_singleton _ _⟩
  simp only [List.map_cons, List.map_nil, List.mem_singleton] at hx
  subst hx
  decide
theorem btw_ab10 : T9.btw true [ka10.t, kb10.t] 1 = (4609434218613702656, 0) := by decide +kernel
end Go.Proofs.Ytahemcpeejgkeaa
