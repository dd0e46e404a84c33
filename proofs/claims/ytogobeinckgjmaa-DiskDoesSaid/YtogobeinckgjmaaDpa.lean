/- The code's own Disk in memory, and the contracts of its small methods: made, Size, has, spend, Dead, Cached, Arm, Fault. -/
import Derived.Test.YtogobeinckgjmaaDr
import Derived.Test.YtogobeinckgjmaaDq
import Derived.Test.YtogobeinckgjmaaMm
import Derived.WalkSpells
namespace Go.Proofs.Ytogobeinckgjmaa
open Go.RowKit

/-- A cached write: its place among all, and its bytes. -/
def rcell (x : Nat × List UInt8) : List Value := .int .i64 (x.1 : Int) :: bcells x.2
def rcells (l : List (Nat × List UInt8)) : List Value := l.flatMap rcell
def kcells (s : List (List UInt8)) : List Value := s.flatMap bcells
theorem rcell_len {x : Nat × List UInt8} (h : x.2.length = 64) : (rcell x).length = 65 := by simp [rcell, bcells_len, h]
theorem kcell_len {b : List UInt8} (h : b.length = 64) : (bcells b).length = 64 := by rw [bcells_len, h]
theorem rcell_one (x : Nat × List UInt8) : ∀ u ∈ rcell x, u.oneCell' = true := by
  intro u hu
  rcases List.mem_cons.1 hu with rfl | hu
  · rfl
  · exact bcells_one _ u hu
theorem rcells_snoc (l : List (Nat × List UInt8)) (x : Nat × List UInt8) : rcells (l ++ [x]) = rcells l ++ rcell x := by simp [rcells]

/-- The code's Disk at block q, as these lists tell it; all its blocks are G's. -/
structure CD6 (w : World) (G : Nat → Prop) (q : Nat) (AK : Option Addr) (cK m : Nat) (AF : Option Addr) (cF : Nat) (lf : Int) (s : List (List UInt8)) (c : List (Nat × List UInt8)) (bad : List Bool) (dead : Bool) (D : DataW Value) (n : Nat) (V : Nat → Option Addr × Nat) : Prop where
  fp : G q
  cell : w.heap[q]? = some (.cells #[.slice AK s.length cK, .map (some m), .int .i64 (c.length : Int), .slice AF bad.length cF, .int .i64 lf, .bool dead] 59 (0, 0))
  k : w.ownsRow 0 62 64 (.slice AK s.length cK) s.length (kcells s)
  kF : InF G AK
  mF : G m
  map : w.ownsMap Try.prog 3 asIs m n D
  few : n ≤ c.length
  look : ∀ i, i < s.length → at_ D (i : Int) = .held (.slice (V i).1 (Dk.wts c i).length (V i).2)
  has : ∀ i, i < s.length → Maps.has D (key (i : Int)) = !(Dk.wts c i).isEmpty
  keys : ∀ kl, Maps.has D kl = true → ∃ i : Nat, i < s.length ∧ kl = key (i : Int)
  row : ∀ i, i < s.length → w.ownsRow 0 64 65 (.slice (V i).1 (Dk.wts c i).length (V i).2) (Dk.wts c i).length (rcells (Dk.wts c i))
  rowF : ∀ i, i < s.length → InF G (V i).1
  apart : ∀ i j, i < s.length → j < s.length → i ≠ j → ∀ a b, (V i).1 = some a → (V j).1 = some b → a.block ≠ b.block
  f : w.ownsRow 0 4 1 (.slice AF bad.length cF) bad.length (bad.map Value.bool)
  fF : InF G AF
/-- The code's Disk at block q. -/
def CD (w : World) (G : Nat → Prop) (q : Nat) (d : Dk.D) : Prop :=
  ∃ (AK : Option Addr) (cK m : Nat) (AF : Option Addr) (cF : Nat) (lf : Int) (D : DataW Value) (n : Nat) (V : Nat → Option Addr × Nat), CD6 w G q AK cK m AF cF lf d.s d.cache d.bad d.dead D n V ∧ d.left = (if 0 ≤ lf then lf else -1)

/-- What a method of the code's Disk that answers an error's number leaves. -/
def CdOk (G : Nat → Prop) (q : Nat) (er : Int) (d : Dk.D) (w : World) (e : Ending) (w' : World) : Prop := e = .returned (.int .i64 er) ∧ CD w' (Up G w.heap.size) q d ∧ But G w.heap.size w w'
def CdOk0 (G : Nat → Prop) (q : Nat) (d : Dk.D) (w : World) (e : Ending) (w' : World) : Prop := e = .returned (.tuple #[]) ∧ CD w' (Up G w.heap.size) q d ∧ But G w.heap.size w w'
def CNewOk (d : Dk.D) (w : World) (e : Ending) (w' : World) : Prop := ∃ q, e = .returned (.pointer (some ⟨q, 0, none⟩)) ∧ CD w' (fun k => w.heap.size ≤ k) q d ∧ Below w.heap.size w w'

/-- It returned the bytes of a sector of its own (nil, where it failed) and an error's number, and left all older memory alone. -/
def CErrOk (B : Nat) (er : Int) (l : List UInt8) (w : World) (e : Ending) (w' : World) : Prop :=
  ∃ A n c, e = .returned (.tuple #[.slice A n c, .int .i64 er]) ∧ n = l.length ∧ n ≤ c ∧ w'.ownsRow B 62 1 (.slice A n c) n (bcells l) ∧ Below B w w'
theorem CErrOk.bad {w w' : World} {er : Int} (h : Below w.heap.size w w') : CErrOk w.heap.size er [] w (.returned (.tuple #[.slice none 0 0, .int .i64 er])) w' :=
  ⟨none, 0, 0, rfl, rfl, Nat.le_refl _, World.ownsRow_nil _ _ _ _, h⟩

theorem own_keepG {w w' : World} {G : Nat → Prop} {base : Nat} {e : TypeId} {size m n c : Nat} {A : Option Addr} {xs : List Value} (h : w.ownsRow base e size (.slice A m c) n xs) (hF : InF G A) (hk : ∀ k, G k → k < w.heap.size → w'.heap[k]? = w.heap[k]?) : w'.ownsRow base e size (.slice A m c) n xs :=
  own_keep h fun k e => hk k (hF.row k e) (h.lt k e).2
theorem map_keep {P : Program} {w w' : World} {k : TypeId} {R : Value → Option (DataW Value × List MemPlace)} {m n : Nat} {D : DataW Value} (h : w.ownsMap P k R m n D) (hk : w'.heap[m]? = w.heap[m]?) : w'.ownsMap P k R m n D := by
  obtain ⟨es, clock, hb, rest⟩ := h
  exact ⟨es, clock, hk.trans hb, rest⟩
theorem map_ne {P : Program} {w : World} {k : TypeId} {R : Value → Option (DataW Value × List MemPlace)} {m n g : Nat} {D : DataW Value} (h : w.ownsMap P k R m n D) {cs : Array Value} {t : TypeId} {fr : Nat × Nat} (hg : w.heap[g]? = some (.cells cs t fr)) : m ≠ g := by
  rintro rfl
  obtain ⟨es, clock, hb, _⟩ := h
  rw [hb] at hg
  cases hg

section
variable {w w' : World} {F G : Nat → Prop} {q : Nat} {AK : Option Addr} {cK m : Nat} {AF : Option Addr} {cF : Nat} {lf : Int} {s : List (List UInt8)} {c : List (Nat × List UInt8)} {bad : List Bool} {dead : Bool} {D : DataW Value} {n : Nat} {V : Nat → Option Addr × Nat}
theorem CD6.keep (h : CD6 w G q AK cK m AF cF lf s c bad dead D n V) (hk : ∀ k, G k → k < w.heap.size → w'.heap[k]? = w.heap[k]?) : CD6 w' G q AK cK m AF cF lf s c bad dead D n V :=
  ⟨h.fp, (hk q h.fp (lt_of_block h.cell)).trans h.cell, own_keepG h.k h.kF hk, h.kF, h.mF, map_keep h.map (hk m h.mF h.map.lt), h.few, h.look, h.has, h.keys, fun i hi => own_keepG (h.row i hi) (h.rowF i hi) hk, h.rowF, h.apart, own_keepG h.f h.fF hk, h.fF⟩
theorem CD6.mono (h : CD6 w F q AK cK m AF cF lf s c bad dead D n V) (hF : ∀ k, F k → G k) : CD6 w G q AK cK m AF cF lf s c bad dead D n V :=
  ⟨hF q h.fp, h.cell, h.k, h.kF.mono hF, hF m h.mF, h.map, h.few, h.look, h.has, h.keys, h.row, fun i hi => (h.rowF i hi).mono hF, h.apart, h.f, h.fF.mono hF⟩
theorem CD6.cap (h : CD6 w G q AK cK m AF cF lf s c bad dead D n V) : CD6 w (fun k => G k ∧ k < w.heap.size) q AK cK m AF cF lf s c bad dead D n V :=
  ⟨⟨h.fp, lt_of_block h.cell⟩, h.cell, h.k, fun ad e => ⟨h.kF ad e, own_lt h.k ad e⟩, ⟨h.mF, h.map.lt⟩, h.map, h.few, h.look, h.has, h.keys, h.row, fun i hi ad e => ⟨h.rowF i hi ad e, own_lt (h.row i hi) ad e⟩, h.apart, h.f, fun ad e => ⟨h.fF ad e, own_lt h.f ad e⟩⟩
theorem CD.keep {d : Dk.D} (h : CD w G q d) (hk : ∀ k, G k → k < w.heap.size → w'.heap[k]? = w.heap[k]?) : CD w' G q d := by
  obtain ⟨AK, cK, m, AF, cF, lf, D, n, V, r, e⟩ := h
  exact ⟨AK, cK, m, AF, cF, lf, D, n, V, r.keep hk, e⟩
theorem CD.mono {d : Dk.D} (h : CD w F q d) (hF : ∀ k, F k → G k) : CD w G q d := by
  obtain ⟨AK, cK, m, AF, cF, lf, D, n, V, r, e⟩ := h
  exact ⟨AK, cK, m, AF, cF, lf, D, n, V, r.mono hF, e⟩
theorem CD.cap {d : Dk.D} (h : CD w G q d) : CD w (fun k => G k ∧ k < w.heap.size) q d := by
  obtain ⟨AK, cK, m, AF, cF, lf, D, n, V, r, e⟩ := h
  exact ⟨AK, cK, m, AF, cF, lf, D, n, V, r.cap, e⟩
/-- Only the block q has turned, and there what isn't a slice or a map. -/
theorem CD6.reset {lf' : Int} {dead' : Bool} (h : CD6 w G q AK cK m AF cF lf s c bad dead D n V)
    (hq : w'.heap[q]? = some (.cells #[.slice AK s.length cK, .map (some m), .int .i64 (c.length : Int), .slice AF bad.length cF, .int .i64 lf', .bool dead'] 59 (0, 0))) (hk : ∀ k, k ≠ q → w'.heap[k]? = w.heap[k]?) : CD6 w' G q AK cK m AF cF lf' s c bad dead' D n V :=
  ⟨h.fp, hq, own_off h.k h.cell (by decide) hk, h.kF, h.mF, map_keep h.map (hk m (map_ne h.map h.cell)), h.few, h.look, h.has, h.keys, fun i hi => own_off (h.row i hi) h.cell (by decide) hk, h.rowF, h.apart, own_off h.f h.cell (by decide) hk, h.fF⟩
theorem CD6.fields (h : CD6 w G q AK cK m AF cF lf s c bad dead D n V) :
    w.cell? ⟨q, 0, none⟩ = some (.slice AK s.length cK) ∧ w.cell? ⟨q, 1, none⟩ = some (.map (some m)) ∧ w.cell? ⟨q, 2, none⟩ = some (.int .i64 (c.length : Int)) ∧ w.cell? ⟨q, 3, none⟩ = some (.slice AF bad.length cF) ∧ w.cell? ⟨q, 4, none⟩ = some (.int .i64 lf) ∧ w.cell? ⟨q, 5, none⟩ = some (.bool dead) ∧ (∀ j, w.frozen? ⟨q, j, none⟩ = false) := by
  have r := h.cell
  refine ⟨?_, ?_, ?_, ?_, ?_, ?_, fun j => blk_free r j⟩ <;> simp [World.cell?, r]
end

/-- A write or a flush begins, on a disk that isn't dead. -/
theorem CD.same {w : World} {G : Nat → Prop} {q : Nat} {d : Dk.D} (h : CD w G q d) : CD w (Up G w.heap.size) q d := h.mono up_self

set_option maxHeartbeats 1000000 in
theorem cdMade_c {w : World} {G : Nat → Prop} {q : Nat} {d : Dk.D} (h : CD w G q d) :
    Calls Try.prog 34 #[.pointer (some ⟨q, 0, none⟩)] w fun e w' => e = .returned (.bool true) ∧ w = w' := by
  obtain ⟨AK, cK, m, AF, cF, lf, D, n, V, r, _⟩ := h
  have c1 := r.fields.2.1
  have qT := fun (w : World) (r : Option Nat) => run_neq_map_nil (P := Try.prog) w 57 _ _ r Try.underlying57
  clear r
  go_enter Try.func34, Try.ntmps34
  go_wp2
  go_ret
  exact ⟨rfl, rfl⟩

set_option maxHeartbeats 1000000 in
theorem cdSizeAt_c {w : World} {G : Nat → Prop} {q : Nat} {d : Dk.D} (h : CD w G q d) :
    Calls Try.prog 29 #[.pointer (some ⟨q, 0, none⟩)] w fun e w' => e = .returned (.int .i64 (d.s.length : Int)) ∧ w = w' := by
  obtain ⟨AK, cK, m, AF, cF, lf, D, n, V, r, _⟩ := h
  have c0 := r.fields.1
  clear r
  go_enter Try.func29, Try.ntmps29
  go_wp2
  go_ret
  exact ⟨rfl, rfl⟩

set_option maxHeartbeats 1000000 in
theorem cdHas_c {w : World} {G : Nat → Prop} {q : Nat} {d : Dk.D} (h : CD w G q d) (i : Int) :
    Calls Try.prog 30 #[.pointer (some ⟨q, 0, none⟩), .int .i64 i] w fun e w' => e = .returned (.bool (Dk.has d i)) ∧ w = w' := by
  have H := Lib.hid h
  have E : Hid (Dk.has d i = (decide (0 ≤ i) && decide (i < (d.s.length : Int)))) := rfl
  clear h
  by_cases h0 : 0 ≤ i
  · go_enter Try.func30, Try.ntmps30
    go_wp2_with (go_at_call 29; refine (cdSizeAt_c H.out).mono ?_; rintro e w1 ⟨rfl, rfl⟩)
    go_ret
    exact ⟨ret_bool (by rw [E.out]; simp [h0]), rfl⟩
  · go_enter Try.func30, Try.ntmps30
    go_wp2
    go_ret
    exact ⟨ret_bool (by rw [E.out]; simp; omega), rfl⟩

theorem cdDead_at {w : World} {G : Nat → Prop} {q : Nat} {d : Dk.D} (h : CD w G q d) :
    Calls Try.prog 27 #[.pointer (some ⟨q, 0, none⟩)] w fun e w' => e = .returned (.bool d.dead) ∧ w = w' := by
  obtain ⟨AK, cK, m, AF, cF, lf, D, n, V, r, _⟩ := h
  have c5 := r.fields.2.2.2.2.2.1
  clear r
  go_enter Try.func27, Try.ntmps27
  go_wp2
  go_ret
  exact ⟨rfl, rfl⟩
theorem cdDead_c {w : World} {G : Nat → Prop} {q : Nat} {d : Dk.D} (h : CD w G q d) :
    Calls Try.prog 27 #[.pointer (some ⟨q, 0, none⟩)] w fun e w' => e = .returned (.bool d.dead) ∧ Below w.heap.size w w' :=
  (cdDead_at h).mono fun _ _ ⟨he, hw⟩ => ⟨he, by subst hw; exact Below.refl _ _⟩
theorem cdSize_c {w : World} {G : Nat → Prop} {q : Nat} {d : Dk.D} (h : CD w G q d) :
    Calls Try.prog 29 #[.pointer (some ⟨q, 0, none⟩)] w fun e w' => e = .returned (.int .i64 (d.s.length : Int)) ∧ Below w.heap.size w w' :=
  (cdSizeAt_c h).mono fun _ _ ⟨he, hw⟩ => ⟨he, by subst hw; exact Below.refl _ _⟩

theorem cdCached_c {w : World} {G : Nat → Prop} {q : Nat} {d : Dk.D} (h : CD w G q d) :
    Calls Try.prog 28 #[.pointer (some ⟨q, 0, none⟩)] w fun e w' => e = .returned (.int .i64 (d.cache.length : Int)) ∧ Below w.heap.size w w' := by
  obtain ⟨AK, cK, m, AF, cF, lf, D, n, V, r, _⟩ := h
  have c2 := r.fields.2.2.1
  clear r
  go_enter Try.func28, Try.ntmps28
  go_wp2
  go_ret
  exact ⟨rfl, Below.refl _ _⟩

set_option maxHeartbeats 1000000 in
theorem cdSpend_c {w : World} {G : Nat → Prop} {q : Nat} {d : Dk.D} (h : CD w G q d) (hd : d.dead = false) (hl : d.left ≤ 9223372036854775807) :
    Calls Try.prog 31 #[.pointer (some ⟨q, 0, none⟩)] w (CdOk G q (Dk.act d).1 (Dk.act d).2 w) := by
  obtain ⟨AK, cK, m, AF, cF, lf, D, n, V, r, e⟩ := h
  obtain ⟨_, _, _, _, c4, c5, fz⟩ := r.fields
  have R := Lib.hid r
  have f4 := fz 4
  have f5 := fz 5
  have fp := r.fp
  clear r fz
  by_cases h0 : lf = 0
  · subst h0
    have hl0 : d.left = 0 := e
    have he : Dk.act d = (50, { d with dead := true }) := by unfold Dk.act; rw [if_pos (Or.inr hl0)]
    have HE := Lib.hid he
    have E := Lib.hid e
    clear he hl0 e hl hd
    go_enter Try.func31, Try.ntmps31
    go_wp2
    go_ret
    rw [HE.out]
    refine ⟨rfl, ⟨AK, cK, m, AF, cF, 0, D, n, V, (CD6.reset (lf' := 0) (dead' := true) R.out ?_ set_off).mono up_self, E.out⟩, (But.refl _ _ _).setCell (Or.inl fp) _⟩
    rw [blk_set R.out.cell]; rfl
  · have q0 : (lf == 0) = false := by simpa using h0
    by_cases h1 : 0 < lf
    · have hl1 : d.left = lf := by rw [e, if_pos (by omega)]
      have he : Dk.act d = (0, { d with left := d.left - 1 }) := by unfold Dk.act; rw [if_neg (by rw [hd, hl1]; simp [h0]), if_pos (by omega)]
      have hlf : lf ≤ 9223372036854775807 := by omega
      have HE := Lib.hid he
      have HL := Lib.hid hl1
      clear he e hl hl1 hd
      go_enter Try.func31, Try.ntmps31
      go_wp2
      go_ret
      rw [HE.out]
      refine ⟨rfl, ⟨AK, cK, m, AF, cF, lf - 1, D, n, V, (CD6.reset (lf' := lf - 1) (dead' := d.dead) R.out ?_ set_off).mono up_self, ?_⟩, (But.refl _ _ _).setCell (Or.inl fp) _⟩
      · rw [blk_set R.out.cell]; rfl
      · rw [if_pos (by omega)]
        show d.left - 1 = lf - 1
        rw [HL.out]
    · have hl1 : d.left = -1 := by rw [e, if_neg (by omega)]
      have he : Dk.act d = (0, d) := by unfold Dk.act; rw [if_neg (by rw [hd, hl1]; simp), if_neg (by omega)]
      have HE := Lib.hid he
      have E := Lib.hid e
      clear he e hl hl1 hd
      go_enter Try.func31, Try.ntmps31
      go_wp2
      go_ret
      rw [HE.out]
      exact ⟨rfl, ⟨AK, cK, m, AF, cF, lf, D, n, V, R.out.mono up_self, E.out⟩, But.refl _ _ _⟩

set_option maxHeartbeats 1000000 in
theorem cdArm_c {w : World} {G : Nat → Prop} {q : Nat} {d : Dk.D} (h : CD w G q d) (n : Int) :
    Calls Try.prog 17 #[.pointer (some ⟨q, 0, none⟩), .int .i64 n] w (CdOk0 G q (Dk.arm d n) w) := by
  obtain ⟨AK, cK, m, AF, cF, lf, D, nn, V, r, e⟩ := h
  obtain ⟨_, _, _, _, c4, _, fz⟩ := r.fields
  have R := Lib.hid r
  have f4 := fz 4
  have fp := r.fp
  clear r fz e
  go_enter Try.func17, Try.ntmps17
  go_wp2
  go_end0
  refine ⟨rfl, ⟨AK, cK, m, AF, cF, n, D, nn, V, (CD6.reset (lf' := n) (dead' := d.dead) R.out ?_ set_off).mono up_self, rfl⟩, (But.refl _ _ _).setCell (Or.inl fp) _⟩
  rw [blk_set R.out.cell]; rfl

set_option maxHeartbeats 1000000 in
theorem cdFault_c {w : World} {G : Nat → Prop} {q : Nat} {d : Dk.D} (h : CD w G q d) (hd : d.ok) (i : Int) (on : Bool) :
    Calls Try.prog 21 #[.pointer (some ⟨q, 0, none⟩), .int .i64 i, .bool on] w (CdOk0 G q (Dk.fault d i on) w) := by
  have H := Lib.hid h
  obtain ⟨AK, cK, m, AF, cF, lf, D, n, V, r, e⟩ := h
  have c3 := r.fields.2.2.2.1
  have R := Lib.hid r
  have E := Lib.hid e
  have hb := hd.bads
  have hf := hd.few
  clear r e hd
  cases hh : Dk.has d i
  · have he : Dk.fault d i on = d := by unfold Dk.fault; rw [if_neg (by rw [hh]; simp)]
    have HE := Lib.hid he
    have HH := Lib.hid hh
    clear he hh hb
    go_enter Try.func21, Try.ntmps21
    go_wp2_with fail
    refine (cdHas_c H.out i).mono ?_
    rw [HH.out]
    rintro e w1 ⟨rfl, rfl⟩
    go_wp2
    go_end0
    rw [HE.out]
    exact ⟨rfl, H.out.mono up_self, But.refl _ _ _⟩
  · obtain ⟨h0, h1⟩ := Dk.has_iff.1 hh
    obtain ⟨k, rfl⟩ := Int.eq_ofNat_of_zero_le h0
    have he : Dk.fault d (k : Int) on = { d with bad := d.bad.set k on } := by unfold Dk.fault; rw [if_pos hh]; rfl
    have hk : k < d.bad.length := by omega
    obtain ⟨g, rfl, _, _, hcell, hfrz⟩ := own_at R.out.f (by omega)
    have cg := hcell k (.bool d.bad[k]) (by rw [List.getElem?_map, List.getElem?_eq_getElem hk]; rfl)
    have fg := hfrz k
    have hki : (k : Int) < (d.bad.length : Int) := by omega
    have fg2 := R.out.fF _ rfl
    obtain ⟨_, bcs, bfr, hgb⟩ := own_row R.out.f g rfl
    have HGB := Lib.hid hgb
    have HE := Lib.hid he
    have HH := Lib.hid hh
    have KL := Lib.hid (show d.bad.length = (d.bad.set k on).length by rw [List.length_set])
    clear he hh hb hcell hfrz hgb h1 hf
    go_enter Try.func21, Try.ntmps21
    go_wp2_with fail
    refine (cdHas_c H.out k).mono ?_
    rw [HH.out]
    rintro e w1 ⟨rfl, rfl⟩
    go_wp2
    go_end0
    rw [HE.out]
    have st := (R.out.f.stored k (.bool on)).1
    rw [bools_set] at st
    have off : ∀ j, j ≠ g → (w.setCell ⟨g, k, none⟩ (.bool on)).heap[j]? = w.heap[j]? := fun _ q => Below.heap_setCell _ _ _ _ q
    refine ⟨rfl, ⟨AK, cK, m, some ⟨g, 0, none⟩, cF, lf, D, n, V, ⟨Or.inl R.out.fp, ?_, own_off R.out.k HGB.out (by decide) off, R.out.kF.mono up_self, Or.inl R.out.mF, map_keep R.out.map (off m (map_ne R.out.map HGB.out)), R.out.few, R.out.look, R.out.has, R.out.keys, fun i hi => own_off (R.out.row i hi) HGB.out (by decide) off, fun i hi => (R.out.rowF i hi).mono up_self, R.out.apart, ?_, R.out.fF.mono up_self⟩, E.out⟩, (But.refl _ _ _).setCell (Or.inl fg2) _⟩
    · have := blk_far R.out.cell (p := ⟨g, k, none⟩) (blk_ne R.out.cell HGB.out (by decide)) (.bool on)
      rw [this]
      simp
    · show (w.setCell ⟨g, k, none⟩ (.bool on)).ownsRow 0 _ 1 (.slice (some ⟨g, 0, none⟩) (d.bad.set k on).length cF) (d.bad.set k on).length _
      rw [← KL.out]
      exact st
end Go.Proofs.Ytogobeinckgjmaa
