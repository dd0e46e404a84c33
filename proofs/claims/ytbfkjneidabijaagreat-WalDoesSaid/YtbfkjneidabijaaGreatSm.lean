/- Numbers in memory; the document's own N onto bytes without spare room; its Slot, its SameNumbers. Contracts of the document's own Slot and SameNumbers. -/
import Derived.Test.YtbfkjneidabijaaGreatSu
import Derived.Test.YtbfkjneidabijaaGreatAp
import Derived.Test.YtbfkjneidabijaaGreatRw
import Derived.Test.YtbfkjneidabijaaGreatCs
import Derived.Lib.SlBytesConst
import Derived.RegionTactic
namespace Go.Proofs.YtbfkjneidabijaaGreat
open Go.RowKit
set_option maxRecDepth 100000

theorem Tryz.infoU64 : (Tryz.prog.info? 52).map (fun i => (i.zero, i.size, i.bytes)) = some (some (.int .u64 0), 1, 8) := by kernel_rfl

/-- Numbers' cells. -/
def ncell (n : Nat) : Value := .int .u64 (n : Int)
def ncells (l : List Nat) : List Value := l.map ncell
theorem ncells_len (l : List Nat) : (ncells l).length = l.length := by simp [ncells]
theorem ncells_app (l m : List Nat) : ncells (l ++ m) = ncells l ++ ncells m := by simp [ncells]
theorem ncells_one (l : List Nat) : ∀ u ∈ ncells l, u.oneCell' = true := by
  intro u hu
  simp only [ncells, List.mem_map] at hu
  obtain ⟨n, _, rfl⟩ := hu
  rfl
theorem Lies.num {w : World} {B : Nat} {t : TypeId} {A : Option Addr} {l : List Nat} (h : Lies w B t A (ncells l)) {k : Nat} (hk : k < l.length) : ∃ ad, A = some ad ∧ w.cell? (ad.add k) = some (.int .u64 (l[k] : Int)) := by
  obtain ⟨ad, e, hc⟩ := h.at_ (k := k) (by rw [ncells_len]; exact hk)
  exact ⟨ad, e, by rw [hc]; simp [ncells, ncell]⟩
theorem ncells_nats {ns : List Int} (h : ∀ n ∈ ns, 0 ≤ n) : ns.map (Value.int .u64) = ncells (ns.map Int.toNat) := by
  unfold ncells
  rw [List.map_map]
  apply List.map_congr_left
  intro n hn
  have := h n hn
  show Value.int .u64 n = Value.int .u64 ((n.toNat : Nat) : Int)
  rw [Int.toNat_of_nonneg this]

section
variable {P : Program} (w : World)
/-- An append onto a slice without spare room: a new row. -/
theorem wpList_new {ops : Array Oper} {rest : List Oper} {o : Oper} {a : Act} {Q : Exit → Act → World → Prop} (hgd : o.guard = none) (s x : Operand) (t : TypeId)
    (ho : o.op = .call { callee := .builtin .append, args := #[s, x], argTypes := #[t, t] })
    (base : Nat) (e : TypeId) (i : TypeInfo) (z : Value) (size bytes : Nat) (ht : P.underlying t = some (.slice e)) (hi : P.info? e = some i) (hz : i.zero = some z)
    (hsize : i.size = size) (hby : i.bytes = bytes) (hzs : z.cells.size = size)
    (B0 : Nat) (t0 : TypeId) (A0 : Option Addr) (n : Nat) (olds : List Value) (hs : a.eval s = .slice A0 n n) (hl0 : olds.length = n * size) (hL0 : Lies w B0 t0 A0 olds) (hnil : A0 = none → n = 0)
    (ad : Addr) (m c : Nat) (news : List Value) (hx : a.eval x = .slice (some ad) m c) (hl : news.length = m * size) (hc : ∀ j u, news[j]? = some u → w.cell? (ad.add j) = some u) (h1 : ∀ u ∈ news, u.oneCell' = true) (hm : 0 < m)
    (h63 : n + m ≤ maxLen) (hbytes : (n + m) * bytes ≤ 140737488355328) (hbase : base ≤ w.heap.size)
    (h : ∀ v' w', w'.ownsRow base e size v' (n + m) (olds ++ news) → w.grownBy w' none → wpList P ops Q rest (a.put o.dst v') w') : wpList P ops Q (o :: rest) a w :=
  wpList_plain hgd fun K hK => by
    obtain ⟨v', w', hrun, h2, h3, _⟩ := run_app_new (P := P) w base t o.type e i z size bytes ht hi hz hsize hby hzs B0 t0 A0 n olds hl0 hL0 hnil ad m c news hl hc h1 hm h63 hbytes hbase
    unfold Oper.wp execOp
    simp only [ho, resolve, invoke, builtin, Sem.run_bind, Sem.run_pure, Result.andThen_ok, List.map_toArray, List.map_cons, List.map_nil, hs, hx, hrun]
    exact hK _ _ (h v' w' h2 h3)
end

theorem cell1 {w : World} {b : UInt8} {x : Int} (hx : x = (b.toNat : Int)) {g : Nat} (hg : g = w.heap.size) : ∀ (j : Nat) (u : Value), (bcells [b])[j]? = some u → (w.alloc (.cells #[.int .u8 x] 5)).cell? ((⟨g, 0, none⟩ : Addr).add j) = some u := by
  intro j u hu
  obtain ⟨ad, e, _, hc⟩ := (lies1 (w := w) hx hg) (by simp [bcells])
  injection e with e
  subst e
  exact hc j u hu

set_option maxHeartbeats 1000000 in
theorem rN0_c {l : List UInt8} {ad : Addr} {m : Nat} {n : Int} {w : World} {B0 : Nat} {t0 : TypeId} (hL : Lies w B0 t0 (some ad) (bcells l)) (hm : m = l.length) (h0 : 0 ≤ n) (h1 : n < 18446744073709551616) (hs : l.length + 9 ≤ 1000000000000) :
    Calls Tryz.prog 92 #[.slice (some ad) m m, .int .u64 n] w (AppOk w.heap.size (l ++ Cd.num n.toNat) w) := by
  have H1 := Lib.hid h1
  have HL := Lib.hid (hL.old (t' := 0))
  have HM := Lib.hid hm
  rw [← hm] at hs
  clear h1 hL hm
  obtain ⟨i0, hi, hz0, hz1, hz2⟩ := info_parts Tryz.infoU8
  by_cases hlo : n < 128
  · have E := Lib.hid (num_lo h0 hlo)
    go_enter Tryz.func92, Tryz.ntmps92
    go_wp2_with (at_builtin; refine wpList_new _ rfl _ _ 57 rfl w.heap.size 5 i0 (.int .u8 0) 1 1 Tryz.underlying57 hi hz0 hz1 hz2 rfl w.heap.size 0 (some ad) m (bcells l) rfl (by rw [bcells_len, HM.out]; omega) (HL.out.alloc (Nat.le_refl _) _) (by simp) _ 1 1 (bcells [Cd.byt n.toNat 0]) rfl rfl (cell1 E.out.1 rfl) (bcells_one _) (by decide) (by unfold maxLen; omega) (by omega) (by simp) ?_)
    intro v' w1 hown' hgrow
    obtain ⟨A2, k2, rfl⟩ := own_slice hown'
    have T1 := Lib.hid ((Tch.refl w.heap.size [5] w).alloc (Nat.le_refl _) (.cells #[.int .u8 n] 5))
    have HT1 := Lib.hid (T1.out.grown hgrow (by simp) (fun k q => by cases q))
    have HO2 := Lib.hid hown'
    clear hown' hgrow
    go_wp2
    go_ret
    exact ⟨A2, _, k2, rfl, by rw [E.out.2, bcells_app, List.length_append, ← HM.out]; exact HO2.out, HT1.out⟩
  · obtain ⟨b, E⟩ : ∃ b : UInt8, Hid (128 + (Cd.wid n.toNat : Int) = (b.toNat : Int) ∧ Cd.num n.toNat = [b] ++ Cd.fix n.toNat (Cd.wid n.toNat)) := ⟨_, num_hi (by omega)⟩
    have wp := Cd.wid_pos n.toNat
    go_enter Tryz.func92, Tryz.ntmps92
    go_wp2_with (first
      | (go_at_call 100; refine (wide_c _ _ h0).mono ?_; rintro e w' ⟨rfl, rfl⟩)
      | (at_builtin; refine wpList_new _ rfl _ _ 57 rfl w.heap.size 5 i0 (.int .u8 0) 1 1 Tryz.underlying57 hi hz0 hz1 hz2 rfl w.heap.size 0 (some ad) m (bcells l) rfl (by rw [bcells_len, HM.out]; omega) (HL.out.alloc (Nat.le_refl _) _) (by simp) _ 1 1 (bcells [b]) rfl rfl (cell1 E.out.1 rfl) (bcells_one _) (by decide) (by unfold maxLen; omega) (by omega) (by simp) ?_))
    intro v' w1 hown' hgrow
    obtain ⟨A2, k2, rfl⟩ := own_slice hown'
    have T1 := Lib.hid ((Tch.refl w.heap.size [5] w).alloc (Nat.le_refl _) (.cells #[.int .u8 (128 + (Cd.wid n.toNat : Int))] 5))
    have HT1 := Lib.hid (T1.out.grown hgrow (by simp) (fun k q => by cases q))
    have hz1 := HT1.out.size
    have ho2 : w1.ownsRow w.heap.size 5 1 (.slice A2 (m + 1) k2) (l ++ [b]).length (bcells (l ++ [b])) := by
      rw [bcells_app, List.length_append, ← HM.out]; exact hown'
    have HO2 := Lib.hid ho2
    clear hown' hgrow ho2
    go_wp2_with fail
    refine (fixed_c (l := l ++ [b]) (k := Cd.wid n.toNat) rfl HO2.out hz1 h0 H1.out wp.2 (by simp; rw [← HM.out]; omega)).mono ?_
    rintro e w' ⟨A3, m3, k3, rfl, ho3, t3⟩
    have HO3 := Lib.hid ho3
    have HT3 := Lib.hid t3
    clear ho3 t3
    go_wp2
    go_ret
    exact ⟨A3, m3, k3, rfl, by rw [E.out.2, ← List.append_assoc]; exact HO3.out, HT1.out.trans HT3.out⟩

namespace Su
def pre (g : Nat) (l : List Nat) (j : Nat) : List UInt8 := [70, 83] ++ Cd.num g ++ Cd.num l.length ++ (l.take j).flatMap Cd.num
theorem pre_all (g : Nat) (l : List Nat) : pre g l l.length = body g l := by unfold pre body; rw [List.take_length]
theorem pre_next (g : Nat) {l : List Nat} {j : Nat} (h : j < l.length) : pre g l (j + 1) = pre g l j ++ Cd.num l[j] := by
  unfold pre
  rw [take_next (List.getElem?_eq_getElem h), List.flatMap_append]
  simp
theorem pre_len (g : Nat) {l : List Nat} (h : l.length ≤ 4) (j : Nat) : (pre g l j).length ≤ 56 := by
  have h1 := num_len g
  have h2 := num_len l.length
  have h3 := nums_len (l.take j)
  have h4 : (l.take j).length ≤ 4 := by rw [List.length_take]; omega
  unfold pre
  simp only [List.length_append, List.length_cons, List.length_nil]
  omega
end Su

/-- A number of 64 bits. -/
def U64 (n : Nat) : Prop := n < 18446744073709551616
theorem U64.int {n : Nat} (h : U64 n) : (n : Int) < 18446744073709551616 := by unfold U64 at h; omega
theorem U64.of {n : Nat} (h : n < 18446744073709551616) : U64 n := h

set_option maxHeartbeats 4000000 in
set_option maxRecDepth 100000 in
theorem refSlot_c {g n c : Nat} {A : Option Addr} {l : List Nat} {w : World} {B : Nat} {t : TypeId} (hL : Lies w B t A (ncells l)) (hn : n = l.length) (hg : U64 g) (hl : ∀ x ∈ l, U64 x) (hs : n ≤ 1000000000) :
    Calls Tryz.prog 75 #[.int .u64 (g : Int), .slice A n c] w (BErrOk w.heap.size (Su.slotE l) (Su.slotB g l) w) := by
  have HL := Lib.hid (hL.old (t' := 52))
  have HN := Lib.hid hn
  have HG := Lib.hid hg
  have HX := Lib.hid hl
  clear hL hn hg hl
  by_cases h4 : 4 < n
  · have e1 : Su.slotE l = 2 := by unfold Su.slotE; rw [if_pos (by rw [← HN.out]; exact h4)]
    have e2 : Su.slotB g l = [] := by unfold Su.slotB; rw [if_pos (by rw [← HN.out]; exact h4)]
    rw [e1, e2]
    clear e1 e2
    go_enter Tryz.func75, Tryz.ntmps75
    go_wp2
    go_ret2
    exact BErrOk.bad (Below.refl _ _)
  · have e1 : Su.slotE l = 0 := by unfold Su.slotE; rw [if_neg (by rw [← HN.out]; exact h4)]
    have e2 : Su.slotB g l = Su.slot g l := by unfold Su.slotB; rw [if_neg (by rw [← HN.out]; exact h4)]
    rw [e1, e2]
    clear e1 e2
    have PL := Lib.hid (fun j => Su.pre_len g (l := l) (by rw [← HN.out]; omega) j)
    have kc := fun (w : World) (C : Array Value) (n c : Nat) => Lib.run_convert_bytes_const (P := Tryz.prog) w 57 5 C n c Tryz.underlying57 Tryz.underlying5
    go_enter Tryz.func75, Tryz.ntmps75
    go_wp2_with fail
    refine (rN0_c (l := [70, 83]) (Lies.of_blk (B := 0) (heap_alloc_new w (.cells (bcells [70, 83]).toArray 5 (2, 3)))) rfl (by omega) HG.out.int (by decide)).mono ?_
    rintro e w1 ⟨A1, n1, c1, rfl, ho1, t1⟩
    rw [Int.toNat_natCast] at ho1
    have O1 := Lib.hid (own_less ho1 (b := w.heap.size) (by simp))
    have T1 := Lib.hid (((Tch.refl w.heap.size [5] w).alloc (Nat.le_refl _) (.cells (bcells [70, 83]).toArray 5 (2, 3))).trans (t1.mono (by simp)))
    have z1 := T1.out.size
    have LG := Lib.hid (Su.num_len g).2
    clear ho1 t1 kc
    go_wp2_with fail
    refine (rN_c (n := (n : Int)) O1.out z1 (by omega) (by omega) (by have := LG.out; simp; omega)).mono ?_
    rintro e w2 ⟨A2, n2, c2, rfl, ho2, t2⟩
    rw [Int.toNat_natCast] at ho2
    obtain ⟨rfl, _⟩ := own_room ho2
    have e0 : [70, 83] ++ Cd.num g ++ Cd.num n = Su.pre g l 0 := by unfold Su.pre; rw [HN.out]; simp
    rw [e0] at ho2 ⊢
    have O2 := Lib.hid ho2
    have T2 := Lib.hid (T1.out.trans t2)
    clear ho2 t2 e0
    go_wp2_with fail
    go_loopw [6, 22] (fun s i wr => ∃ (j : Nat) (A3 : Option Addr) (c3 : Nat), j ≤ n ∧ i = .int .i64 j ∧ s = .slice A3 (Su.pre g l j).length c3 ∧ wr.ownsRow w.heap.size 5 1 (.slice A3 (Su.pre g l j).length c3) (Su.pre g l j).length (bcells (Su.pre g l j)) ∧ Tch w.heap.size [5] w wr) (fun _ i _ => n - (intOf i).toNat)
    case atStart => exact ⟨0, A2, c2, Nat.zero_le _, rfl, rfl, O2.out, T2.out⟩
    case round =>
      obtain ⟨j, A3, c3, hj, rfl, rfl, ho, ht⟩ := hrel
      have O3 := Lib.hid ho
      have T3 := Lib.hid ht
      have z3 := ht.size
      have pl := PL.out j
      clear ho ht
      by_cases hlt : j < n
      · have hlt2 : j < l.length := by rw [← HN.out]; exact hlt
        obtain ⟨ad, rfl, hcell⟩ := (HL.out.below (Nat.le_refl _) T3.out.below).num hlt2
        have NX := Lib.hid (Su.pre_next g hlt2)
        have XB := Lib.hid (HX.out _ (List.getElem_mem hlt2))
        go_wp2_with fail
        refine (rN_c (n := ((l[j] : Nat) : Int)) O3.out z3 (by omega) XB.out.int (by omega)).mono ?_
        rintro e w4 ⟨A4, n4, c4, rfl, ho4, t4⟩
        rw [Int.toNat_natCast, ← NX.out] at ho4
        obtain ⟨rfl, _⟩ := own_room ho4
        have O4 := Lib.hid ho4
        have T4 := Lib.hid (T3.out.trans t4)
        clear ho4 t4
        go_wp2
        go_roundw
        case rel => exact ⟨j + 1, A4, c4, by omega, by go_num, rfl, O4.out, T4.out⟩
        case measure => simp [intOf]; omega
      · obtain rfl : j = n := by omega
        have ea : Su.pre g l j = Su.body g l := by rw [HN.out]; exact Su.pre_all g l
        rw [ea] at O3 pl ⊢
        clear ea
        have sl : Crc.sum (Su.body g l) < 4294967296 := Crc.more_lt (by decide) _
        go_wp2_with fail
        refine (refSum32_c _ _ _ (Su.body g l) _ (B := 0) (t := 5) (lies_own O3.out) rfl (by omega)).mono ?_
        rintro e w' ⟨rfl, rfl⟩
        go_wp2_with fail
        refine (fixed_c (B := w.heap.size) (l := Su.body g l) (k := 4) rfl O3.out z3 (by omega) (by omega) (by omega) (by omega)).mono ?_
        rintro e w4 ⟨A4, n4, c4, rfl, ho4, t4⟩
        rw [Int.toNat_natCast] at ho4
        have es : Su.body g l ++ Cd.fix (Crc.sum (Su.body g l)) 4 = Su.slot g l := rfl
        rw [es] at ho4
        obtain ⟨rfl, _⟩ := own_room ho4
        have O4 := Lib.hid ho4
        have T4 := Lib.hid (T3.out.trans t4)
        clear ho4 t4 es
        go_wp2
        go_ret2
        exact ⟨A4, _, c4, rfl, rfl, (own_room O4.out).2, O4.out, T4.out.below⟩

end Go.Proofs.YtbfkjneidabijaaGreat
