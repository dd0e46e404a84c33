/- The code's own Disk in memory, and the contracts of its small methods: made, Size, has, spend, Dead, Cached, Arm, Fault. The code's own Disk: New. The code's own Disk: all calls on one that nobody made; Read. -/
import Derived.Test.YthddpenpmjonkaaDr
import Derived.Test.YthddpenpmjonkaaDk
import Derived.Test.YthddpenpmjonkaaMm
import Derived.WalkSpells
import Derived.Test.YthddpenpmjonkaaDe
namespace Go.Proofs.Ythddpenpmjonkaa
open Go.RowKit
set_option maxRecDepth 100000

/-- A cached write: its place among all, and its bytes. -/
def rcell (x : Nat × List UInt8) : List Value := .int .i64 (x.1 : Int) :: bcells x.2
def rcells (l : List (Nat × List UInt8)) : List Value := l.flatMap rcell
def kcells (s : List (List UInt8)) : List Value := s.flatMap bcells
theorem rcell_len {x : Nat × List UInt8} (h : x.2.length = 64) : (rcell x).length = 65 := by simp [rcell, bcells_len, h]
theorem kcell_len {b : List UInt8} (h : b.length = 64) : (bcells b).length = 64 := by rw [bcells_len, h]
theorem rcell_one (x : Nat × List UInt8) : ∀ u ∈ rcell x, u.oneCell' = true := by
  intro u hu
  rcases List.mem_cons.1 hu with rfl | hu
  · rfl
  · exact bcells_one _ u hu
theorem rcells_snoc (l : List (Nat × List UInt8)) (x : Nat × List UInt8) : rcells (l ++ [x]) = rcells l ++ rcell x := by simp [rcells]

/-- The code's Disk at block q, as these lists tell it; all its blocks are G's. -/
structure CD6 (w : World) (G : Nat → Prop) (q : Nat) (AK : Option Addr) (cK m : Nat) (AF : Option Addr) (cF : Nat) (lf : Int) (s : List (List UInt8)) (c : List (Nat × List UInt8)) (bad : List Bool) (dead : Bool) (D : DataW Value) (n : Nat) (V : Nat → Option Addr × Nat) : Prop where
  fp : G q
  cell : w.heap[q]? = some (.cells #[.slice AK s.length cK, .map (some m), .int .i64 (c.length : Int), .slice AF bad.length cF, .int .i64 lf, .bool dead] 76 (0, 0))
  k : w.ownsRow 0 84 64 (.slice AK s.length cK) s.length (kcells s)
  kF : InF G AK
  mF : G m
  map : w.ownsMap Try.prog 3 asIs m n D
  few : n ≤ c.length
  look : ∀ i, i < s.length → at_ D (i : Int) = .held (.slice (V i).1 (Dk.wts c i).length (V i).2)
  has : ∀ i, i < s.length → Maps.has D (key (i : Int)) = !(Dk.wts c i).isEmpty
  keys : ∀ kl, Maps.has D kl = true → ∃ i : Nat, i < s.length ∧ kl = key (i : Int)
  row : ∀ i, i < s.length → w.ownsRow 0 86 65 (.slice (V i).1 (Dk.wts c i).length (V i).2) (Dk.wts c i).length (rcells (Dk.wts c i))
  rowF : ∀ i, i < s.length → InF G (V i).1
  apart : ∀ i j, i < s.length → j < s.length → i ≠ j → ∀ a b, (V i).1 = some a → (V j).1 = some b → a.block ≠ b.block
  f : w.ownsRow 0 4 1 (.slice AF bad.length cF) bad.length (bad.map Value.bool)
  fF : InF G AF
/-- The code's Disk at block q. -/
def CD (w : World) (G : Nat → Prop) (q : Nat) (d : Dk.D) : Prop :=
  ∃ (AK : Option Addr) (cK m : Nat) (AF : Option Addr) (cF : Nat) (lf : Int) (D : DataW Value) (n : Nat) (V : Nat → Option Addr × Nat), CD6 w G q AK cK m AF cF lf d.s d.cache d.bad d.dead D n V ∧ d.left = (if 0 ≤ lf then lf else -1)

/-- What a method of the code's Disk that answers an error's number leaves. -/
def CdOk (G : Nat → Prop) (q : Nat) (er : Int) (d : Dk.D) (w : World) (e : Ending) (w' : World) : Prop := e = .returned (.int .i64 er) ∧ CD w' (Up G w.heap.size) q d ∧ But G w.heap.size w w'
def CdOk0 (G : Nat → Prop) (q : Nat) (d : Dk.D) (w : World) (e : Ending) (w' : World) : Prop := e = .returned (.tuple #[]) ∧ CD w' (Up G w.heap.size) q d ∧ But G w.heap.size w w'
def CNewOk (d : Dk.D) (w : World) (e : Ending) (w' : World) : Prop := ∃ q, e = .returned (.pointer (some ⟨q, 0, none⟩)) ∧ CD w' (fun k => w.heap.size ≤ k) q d ∧ Below w.heap.size w w'

/-- It returned the bytes of a sector of its own (nil, where it failed) and an error's number, and left all older memory alone. -/
def CErrOk (B : Nat) (er : Int) (l : List UInt8) (w : World) (e : Ending) (w' : World) : Prop :=
  ∃ A n c, e = .returned (.tuple #[.slice A n c, .int .i64 er]) ∧ n = l.length ∧ n ≤ c ∧ w'.ownsRow B 84 1 (.slice A n c) n (bcells l) ∧ Below B w w'
theorem CErrOk.bad {w w' : World} {er : Int} (h : Below w.heap.size w w') : CErrOk w.heap.size er [] w (.returned (.tuple #[.slice none 0 0, .int .i64 er])) w' :=
  ⟨none, 0, 0, rfl, rfl, Nat.le_refl _, World.ownsRow_nil _ _ _ _, h⟩

theorem own_keepG {w w' : World} {G : Nat → Prop} {base : Nat} {e : TypeId} {size m n c : Nat} {A : Option Addr} {xs : List Value} (h : w.ownsRow base e size (.slice A m c) n xs) (hF : InF G A) (hk : ∀ k, G k → k < w.heap.size → w'.heap[k]? = w.heap[k]?) : w'.ownsRow base e size (.slice A m c) n xs :=
  own_keep h fun k e => hk k (hF.row k e) (h.lt k e).2
theorem map_keep {P : Program} {w w' : World} {k : TypeId} {R : Value → Option (DataW Value × List MemPlace)} {m n : Nat} {D : DataW Value} (h : w.ownsMap P k R m n D) (hk : w'.heap[m]? = w.heap[m]?) : w'.ownsMap P k R m n D := by
  obtain ⟨es, clock, hb, rest⟩ := h
  exact ⟨es, clock, hk.trans hb, rest⟩
theorem map_ne {P : Program} {w : World} {k : TypeId} {R : Value → Option (DataW Value × List MemPlace)} {m n g : Nat} {D : DataW Value} (h : w.ownsMap P k R m n D) {cs : Array Value} {t : TypeId} {fr : Nat × Nat} (hg : w.heap[g]? = some (.cells cs t fr)) : m ≠ g := by
  rintro rfl
  obtain ⟨es, clock, hb, _⟩ := h
  rw [hb] at hg
  cases hg

section
variable {w w' : World} {F G : Nat → Prop} {q : Nat} {AK : Option Addr} {cK m : Nat} {AF : Option Addr} {cF : Nat} {lf : Int} {s : List (List UInt8)} {c : List (Nat × List UInt8)} {bad : List Bool} {dead : Bool} {D : DataW Value} {n : Nat} {V : Nat → Option Addr × Nat}
theorem CD6.keep (h : CD6 w G q AK cK m AF cF lf s c bad dead D n V) (hk : ∀ k, G k → k < w.heap.size → w'.heap[k]? = w.heap[k]?) : CD6 w' G q AK cK m AF cF lf s c bad dead D n V :=
  ⟨h.fp, (hk q h.fp (lt_of_block h.cell)).trans h.cell, own_keepG h.k h.kF hk, h.kF, h.mF, map_keep h.map (hk m h.mF h.map.lt), h.few, h.look, h.has, h.keys, fun i hi => own_keepG (h.row i hi) (h.rowF i hi) hk, h.rowF, h.apart, own_keepG h.f h.fF hk, h.fF⟩
theorem CD6.mono (h : CD6 w F q AK cK m AF cF lf s c bad dead D n V) (hF : ∀ k, F k → G k) : CD6 w G q AK cK m AF cF lf s c bad dead D n V :=
  ⟨hF q h.fp, h.cell, h.k, h.kF.mono hF, hF m h.mF, h.map, h.few, h.look, h.has, h.keys, h.row, fun i hi => (h.rowF i hi).mono hF, h.apart, h.f, h.fF.mono hF⟩
theorem CD6.cap (h : CD6 w G q AK cK m AF cF lf s c bad dead D n V) : CD6 w (fun k => G k ∧ k < w.heap.size) q AK cK m AF cF lf s c bad dead D n V :=
  ⟨⟨h.fp, lt_of_block h.cell⟩, h.cell, h.k, fun ad e => ⟨h.kF ad e, own_lt h.k ad e⟩, ⟨h.mF, h.map.lt⟩, h.map, h.few, h.look, h.has, h.keys, h.row, fun i hi ad e => ⟨h.rowF i hi ad e, own_lt (h.row i hi) ad e⟩, h.apart, h.f, fun ad e => ⟨h.fF ad e, own_lt h.f ad e⟩⟩
theorem CD.keep {d : Dk.D} (h : CD w G q d) (hk : ∀ k, G k → k < w.heap.size → w'.heap[k]? = w.heap[k]?) : CD w' G q d := by
  obtain ⟨AK, cK, m, AF, cF, lf, D, n, V, r, e⟩ := h
  exact ⟨AK, cK, m, AF, cF, lf, D, n, V, r.keep hk, e⟩
theorem CD.mono {d : Dk.D} (h : CD w F q d) (hF : ∀ k, F k → G k) : CD w G q d := by
  obtain ⟨AK, cK, m, AF, cF, lf, D, n, V, r, e⟩ := h
  exact ⟨AK, cK, m, AF, cF, lf, D, n, V, r.mono hF, e⟩
theorem CD.cap {d : Dk.D} (h : CD w G q d) : CD w (fun k => G k ∧ k < w.heap.size) q d := by
  obtain ⟨AK, cK, m, AF, cF, lf, D, n, V, r, e⟩ := h
  exact ⟨AK, cK, m, AF, cF, lf, D, n, V, r.cap, e⟩
/-- Only the block q has turned, and there what isn't a slice or a map. -/
theorem CD6.reset {lf' : Int} {dead' : Bool} (h : CD6 w G q AK cK m AF cF lf s c bad dead D n V)
    (hq : w'.heap[q]? = some (.cells #[.slice AK s.length cK, .map (some m), .int .i64 (c.length : Int), .slice AF bad.length cF, .int .i64 lf', .bool dead'] 76 (0, 0))) (hk : ∀ k, k ≠ q → w'.heap[k]? = w.heap[k]?) : CD6 w' G q AK cK m AF cF lf' s c bad dead' D n V :=
  ⟨h.fp, hq, own_off h.k h.cell (by decide) hk, h.kF, h.mF, map_keep h.map (hk m (map_ne h.map h.cell)), h.few, h.look, h.has, h.keys, fun i hi => own_off (h.row i hi) h.cell (by decide) hk, h.rowF, h.apart, own_off h.f h.cell (by decide) hk, h.fF⟩
theorem CD6.fields (h : CD6 w G q AK cK m AF cF lf s c bad dead D n V) :
    w.cell? ⟨q, 0, none⟩ = some (.slice AK s.length cK) ∧ w.cell? ⟨q, 1, none⟩ = some (.map (some m)) ∧ w.cell? ⟨q, 2, none⟩ = some (.int .i64 (c.length : Int)) ∧ w.cell? ⟨q, 3, none⟩ = some (.slice AF bad.length cF) ∧ w.cell? ⟨q, 4, none⟩ = some (.int .i64 lf) ∧ w.cell? ⟨q, 5, none⟩ = some (.bool dead) ∧ (∀ j, w.frozen? ⟨q, j, none⟩ = false) := by
  have r := h.cell
  refine ⟨?_, ?_, ?_, ?_, ?_, ?_, fun j => blk_free r j⟩ <;> simp [World.cell?, r]
end

/-- A write or a flush begins, on a disk that isn't dead. -/
theorem CD.same {w : World} {G : Nat → Prop} {q : Nat} {d : Dk.D} (h : CD w G q d) : CD w (Up G w.heap.size) q d := h.mono up_self

set_option maxHeartbeats 1000000 in
theorem cdMade_c {w : World} {G : Nat → Prop} {q : Nat} {d : Dk.D} (h : CD w G q d) :
    Calls Try.prog 59 #[.pointer (some ⟨q, 0, none⟩)] w fun e w' => e = .returned (.bool true) ∧ w = w' := by
  obtain ⟨AK, cK, m, AF, cF, lf, D, n, V, r, _⟩ := h
  have c1 := r.fields.2.1
  have qT := fun (w : World) (r : Option Nat) => run_neq_map_nil (P := Try.prog) w 74 _ _ r Try.underlying74
  clear r
  go_enter Try.func59, Try.ntmps59
  go_wp2
  go_ret
  exact ⟨rfl, rfl⟩

set_option maxHeartbeats 1000000 in
theorem cdSizeAt_c {w : World} {G : Nat → Prop} {q : Nat} {d : Dk.D} (h : CD w G q d) :
    Calls Try.prog 58 #[.pointer (some ⟨q, 0, none⟩)] w fun e w' => e = .returned (.int .i64 (d.s.length : Int)) ∧ w = w' := by
  obtain ⟨AK, cK, m, AF, cF, lf, D, n, V, r, _⟩ := h
  have c0 := r.fields.1
  clear r
  go_enter Try.func58, Try.ntmps58
  go_wp2
  go_ret
  exact ⟨rfl, rfl⟩

set_option maxHeartbeats 1000000 in
theorem cdHas_c {w : World} {G : Nat → Prop} {q : Nat} {d : Dk.D} (h : CD w G q d) (i : Int) :
    Calls Try.prog 34 #[.pointer (some ⟨q, 0, none⟩), .int .i64 i] w fun e w' => e = .returned (.bool (Dk.has d i)) ∧ w = w' := by
  have H := Lib.hid h
  have E : Hid (Dk.has d i = (decide (0 ≤ i) && decide (i < (d.s.length : Int)))) := rfl
  clear h
  by_cases h0 : 0 ≤ i
  · go_enter Try.func34, Try.ntmps34
    go_wp2_with (go_at_call 58; refine (cdSizeAt_c H.out).mono ?_; rintro e w1 ⟨rfl, rfl⟩)
    go_ret
    exact ⟨ret_bool (by rw [E.out]; simp [h0]), rfl⟩
  · go_enter Try.func34, Try.ntmps34
    go_wp2
    go_ret
    exact ⟨ret_bool (by rw [E.out]; simp; omega), rfl⟩

theorem cdDead_at {w : World} {G : Nat → Prop} {q : Nat} {d : Dk.D} (h : CD w G q d) :
    Calls Try.prog 33 #[.pointer (some ⟨q, 0, none⟩)] w fun e w' => e = .returned (.bool d.dead) ∧ w = w' := by
  obtain ⟨AK, cK, m, AF, cF, lf, D, n, V, r, _⟩ := h
  have c5 := r.fields.2.2.2.2.2.1
  clear r
  go_enter Try.func33, Try.ntmps33
  go_wp2
  go_ret
  exact ⟨rfl, rfl⟩
theorem cdDead_c {w : World} {G : Nat → Prop} {q : Nat} {d : Dk.D} (h : CD w G q d) :
    Calls Try.prog 33 #[.pointer (some ⟨q, 0, none⟩)] w fun e w' => e = .returned (.bool d.dead) ∧ Below w.heap.size w w' :=
  (cdDead_at h).mono fun _ _ ⟨he, hw⟩ => ⟨he, by subst hw; exact Below.refl _ _⟩
theorem cdSize_c {w : World} {G : Nat → Prop} {q : Nat} {d : Dk.D} (h : CD w G q d) :
    Calls Try.prog 58 #[.pointer (some ⟨q, 0, none⟩)] w fun e w' => e = .returned (.int .i64 (d.s.length : Int)) ∧ Below w.heap.size w w' :=
  (cdSizeAt_c h).mono fun _ _ ⟨he, hw⟩ => ⟨he, by subst hw; exact Below.refl _ _⟩

set_option maxHeartbeats 1000000 in
theorem cdSpend_c {w : World} {G : Nat → Prop} {q : Nat} {d : Dk.D} (h : CD w G q d) (hd : d.dead = false) (hl : d.left ≤ 9223372036854775807) :
    Calls Try.prog 35 #[.pointer (some ⟨q, 0, none⟩)] w (CdOk G q (Dk.act d).1 (Dk.act d).2 w) := by
  obtain ⟨AK, cK, m, AF, cF, lf, D, n, V, r, e⟩ := h
  obtain ⟨_, _, _, _, c4, c5, fz⟩ := r.fields
  have R := Lib.hid r
  have f4 := fz 4
  have f5 := fz 5
  have fp := r.fp
  clear r fz
  by_cases h0 : lf = 0
  · subst h0
    have hl0 : d.left = 0 := e
    have he : Dk.act d = (50, { d with dead := true }) := by unfold Dk.act; rw [if_pos (Or.inr hl0)]
    have HE := Lib.hid he
    have E := Lib.hid e
    clear he hl0 e hl hd
    go_enter Try.func35, Try.ntmps35
    go_wp2
    go_ret
    rw [HE.out]
    refine ⟨rfl, ⟨AK, cK, m, AF, cF, 0, D, n, V, (CD6.reset (lf' := 0) (dead' := true) R.out ?_ set_off).mono up_self, E.out⟩, (But.refl _ _ _).setCell (Or.inl fp) _⟩
    rw [blk_set R.out.cell]; rfl
  · have q0 : (lf == 0) = false := by simpa using h0
    by_cases h1 : 0 < lf
    · have hl1 : d.left = lf := by rw [e, if_pos (by omega)]
      have he : Dk.act d = (0, { d with left := d.left - 1 }) := by unfold Dk.act; rw [if_neg (by rw [hd, hl1]; simp [h0]), if_pos (by omega)]
      have hlf : lf ≤ 9223372036854775807 := by omega
      have HE := Lib.hid he
      have HL := Lib.hid hl1
      clear he e hl hl1 hd
      go_enter Try.func35, Try.ntmps35
      go_wp2
      go_ret
      rw [HE.out]
      refine ⟨rfl, ⟨AK, cK, m, AF, cF, lf - 1, D, n, V, (CD6.reset (lf' := lf - 1) (dead' := d.dead) R.out ?_ set_off).mono up_self, ?_⟩, (But.refl _ _ _).setCell (Or.inl fp) _⟩
      · rw [blk_set R.out.cell]; rfl
      · rw [if_pos (by omega)]
        show d.left - 1 = lf - 1
        rw [HL.out]
    · have hl1 : d.left = -1 := by rw [e, if_neg (by omega)]
      have he : Dk.act d = (0, d) := by unfold Dk.act; rw [if_neg (by rw [hd, hl1]; simp), if_neg (by omega)]
      have HE := Lib.hid he
      have E := Lib.hid e
      clear he e hl hl1 hd
      go_enter Try.func35, Try.ntmps35
      go_wp2
      go_ret
      rw [HE.out]
      exact ⟨rfl, ⟨AK, cK, m, AF, cF, lf, D, n, V, R.out.mono up_self, E.out⟩, But.refl _ _ _⟩

set_option maxHeartbeats 1000000 in
theorem cdArm_c {w : World} {G : Nat → Prop} {q : Nat} {d : Dk.D} (h : CD w G q d) (n : Int) :
    Calls Try.prog 21 #[.pointer (some ⟨q, 0, none⟩), .int .i64 n] w (CdOk0 G q (Dk.arm d n) w) := by
  obtain ⟨AK, cK, m, AF, cF, lf, D, nn, V, r, e⟩ := h
  obtain ⟨_, _, _, _, c4, _, fz⟩ := r.fields
  have R := Lib.hid r
  have f4 := fz 4
  have fp := r.fp
  clear r fz e
  go_enter Try.func21, Try.ntmps21
  go_wp2
  go_end0
  refine ⟨rfl, ⟨AK, cK, m, AF, cF, n, D, nn, V, (CD6.reset (lf' := n) (dead' := d.dead) R.out ?_ set_off).mono up_self, rfl⟩, (But.refl _ _ _).setCell (Or.inl fp) _⟩
  rw [blk_set R.out.cell]; rfl

theorem Try.infoSector : (Try.prog.info? 84).map (fun i => (i.zero, i.size, i.bytes)) = some (some (.agg (Array.replicate 64 (.int .u8 0))), 64, 64) := by kernel_rfl

theorem kcells_zero (k : Nat) : kcells (List.replicate k Dk.zero64) = List.replicate (k * 64) (.int .u8 0) := by
  induction k with
  | zero => rfl
  | succ k ih =>
    rw [List.replicate_succ, show kcells (Dk.zero64 :: List.replicate k Dk.zero64) = bcells Dk.zero64 ++ kcells (List.replicate k Dk.zero64) from rfl, ih, show bcells Dk.zero64 = List.replicate 64 (.int .u8 0) from rfl, List.replicate_append_replicate, show 64 + k * 64 = (k + 1) * 64 by omega]
theorem made_zero (k : Nat) : madeCells (Array.replicate 64 (.int .u8 0)) (k * 64) = (kcells (List.replicate k Dk.zero64)).toArray := by
  rw [kcells_zero]
  apply Array.ext
  · simp [madeCells]
  · intro i h1 h2
    simp [madeCells, Nat.mod_lt]
theorem made_false (k : Nat) : madeCells #[.bool false] k = ((List.replicate k false).map Value.bool).toArray := by
  apply Array.ext
  · simp [madeCells]
  · intro i h1 h2
    simp [madeCells, Nat.mod_one]

theorem mk_sectors (k : Nat) (hk : k ≤ 4096) (w : World) : (Instr.makeSlice 73 (.int .i64 (k : Int)) (.int .i64 (k : Int))).run Try.prog w = .ok (.slice (some ⟨w.heap.size, 0, none⟩) k k) (w.alloc (.cells (kcells (List.replicate k Dk.zero64)).toArray 84)) := by
  obtain ⟨ti, hi, iz0, iz1, iz2⟩ := info_parts Try.infoSector
  have q := run_make (P := Try.prog) w 73 84 ti _ Try.underlying73 hi iz0 .i64 .i64 k k (by omega) (Int.le_refl _) (by rw [iz2]; omega) (by omega)
  rw [q, Int.toNat_natCast, iz1]
  show Result.ok _ (w.alloc (.cells (madeCells (Array.replicate 64 (.int .u8 0)) (k * 64)) _)) = _
  rw [made_zero]
theorem mk_bools (k : Nat) (hk : k ≤ 4096) (w : World) : (Instr.makeSlice 49 (.int .i64 (k : Int)) (.int .i64 (k : Int))).run Try.prog w = .ok (.slice (some ⟨w.heap.size, 0, none⟩) k k) (w.alloc (.cells ((List.replicate k false).map Value.bool).toArray 4)) := by
  obtain ⟨ti, hi, iz0, iz1, iz2⟩ := info_parts Try.infoBool
  have q := run_make (P := Try.prog) w 49 4 ti _ Try.underlying49 hi iz0 .i64 .i64 k k (by omega) (Int.le_refl _) (by rw [iz2]; omega) (by omega)
  rw [q, Int.toNat_natCast, iz1, Nat.mul_one]
  show Result.ok _ (w.alloc (.cells (madeCells #[.bool false] k) _)) = _
  rw [made_false]

theorem own_block {w : World} {g k size : Nat} {e : TypeId} {xs : List Value} (hg : w.heap[g]? = some (.cells xs.toArray e (0, 0))) (hl : xs.length = k * size) (hk : k ≤ maxLen) : w.ownsRow 0 e size (.slice (some ⟨g, 0, none⟩) k k) k xs :=
  ⟨hl, .inr ⟨g, k, xs.toArray, rfl, Nat.zero_le _, hg, Nat.le_refl _, hk, by simpa using hl, by rw [← hl]; simp⟩⟩

theorem four_new (w : World) (A B C D : Obj) : ((((w.alloc A).alloc B).alloc C).alloc D).drew.heap[w.heap.size]? = some A ∧ ((((w.alloc A).alloc B).alloc C).alloc D).drew.heap[w.heap.size + 1]? = some B ∧
    ((((w.alloc A).alloc B).alloc C).alloc D).drew.heap[w.heap.size + 1 + 1]? = some C ∧ ((((w.alloc A).alloc B).alloc C).alloc D).drew.heap[w.heap.size + 1 + 1 + 1]? = some D := by
  have e1 := blk_alloc (blk_alloc (blk_alloc (heap_alloc_new w A) B) C) D
  have e2 := blk_alloc (blk_alloc (heap_alloc_new (w.alloc A) B) C) D
  have e3 := blk_alloc (heap_alloc_new ((w.alloc A).alloc B) C) D
  have e4 := heap_alloc_new (((w.alloc A).alloc B).alloc C) D
  simp only [World.size_alloc] at e2 e3 e4
  exact ⟨e1, e2, e3, e4⟩
theorem four_below (w : World) (A B C D : Obj) : Below w.heap.size w ((((w.alloc A).alloc B).alloc C).alloc D).drew :=
  (((((Below.refl _ _).alloc (Nat.le_refl _) A).alloc (by simp) B).alloc (by simp; omega) C).alloc (by simp; omega) D).drew

/-- A new disk, whatever its sectors. -/
theorem cd_new {w : World} {G : Nat → Prop} {q gK m gF k : Nat} {s : List (List UInt8)} (hq : w.heap[q]? = some (.cells #[.slice (some ⟨gK, 0, none⟩) k k, .map (some m), .int .i64 0, .slice (some ⟨gF, 0, none⟩) k k, .int .i64 (-1), .bool false] 76 (0, 0)))
    (hK : w.heap[gK]? = some (.cells (kcells s).toArray 84 (0, 0))) (hm : w.heap[m]? = some (.map #[] 0)) (hF : w.heap[gF]? = some (.cells ((List.replicate k false).map Value.bool).toArray 4 (0, 0)))
    (hs : s.length = k) (h64 : ∀ b ∈ s, b.length = 64) (hk : k ≤ 4096) (g1 : G q) (g2 : G gK) (g3 : G m) (g4 : G gF) : CD w G q { Dk.fresh k with s := s } := by
  subst hs
  have hl : (kcells s).length = s.length * 64 := cel_len fun b hb => kcell_len (h64 b hb)
  refine ⟨some ⟨gK, 0, none⟩, s.length, m, some ⟨gF, 0, none⟩, s.length, -1, .map [], 0, fun _ => (none, 0), ⟨g1, ?_, own_block hK hl (by show s.length ≤ maxLen; unfold maxLen; omega), fun ad e => ?_, g3, ⟨#[], 0, hm, ⟨by simp, MapKept.stamped_empty 0, by simp⟩, Nat.le_refl _, rfl⟩, Nat.le_refl _, fun i _ => rfl, fun i _ => rfl, fun kl h => (by rw [has_empty] at h; cases h), fun i _ => World.ownsRow_nil _ _ _ _, fun i _ => InF.none, fun i j _ _ _ a b e => (by cases e), ?_, fun ad e => ?_⟩, by rw [if_neg (by omega)]; rfl⟩
  · rw [hq]
    simp [Dk.fresh]
  · injection e with e; subst e; exact g2
  · have := own_block hF (k := s.length) (size := 1) (by simp) (by unfold maxLen; omega)
    simpa [Dk.fresh] using this
  · injection e with e; subst e; exact g4

set_option maxHeartbeats 4000000 in
theorem cdNew_c (n : Int) (w : World) (hn : n ≤ 9223372036854775807) :
    Calls Try.prog 12 #[.int .i64 n] w (CNewOk (Dk.new n) w) := by
  have hmm := @run_makeMap Try.prog
  obtain ⟨k, hk, hkn⟩ : ∃ k, k = Dk.count n ∧ Dk.new n = Dk.fresh k := ⟨_, rfl, rfl⟩
  have hk4 : k ≤ 4096 := by rw [hk]; unfold Dk.count; omega
  obtain ⟨Z, hZ⟩ : ∃ Z, Z = (kcells (List.replicate k Dk.zero64)).toArray := ⟨_, rfl⟩
  obtain ⟨Y, hY⟩ : ∃ Y, Y = ((List.replicate k false).map Value.bool).toArray := ⟨_, rfl⟩
  have h1 := mk_sectors k hk4
  have h2 := mk_bools k hk4
  rw [← hZ] at h1
  rw [← hY] at h2
  have h64 : ∀ b ∈ List.replicate k Dk.zero64, b.length = 64 := fun b hb => by rw [List.eq_of_mem_replicate hb]; rfl
  have FIN : Hid (∀ (w' : World) (q gK m gF : Nat), w'.heap[q]? = some (.cells #[.slice (some ⟨gK, 0, none⟩) k k, .map (some m), .int .i64 0, .slice (some ⟨gF, 0, none⟩) k k, .int .i64 (-1), .bool false] 76 (0, 0)) → w'.heap[gK]? = some (.cells Z 84 (0, 0)) → w'.heap[m]? = some (.map #[] 0) → w'.heap[gF]? = some (.cells Y 4 (0, 0)) → w.heap.size ≤ q → w.heap.size ≤ gK → w.heap.size ≤ m → w.heap.size ≤ gF → CD w' (fun k => w.heap.size ≤ k) q (Dk.new n)) := Lib.hid fun w' q gK m gF e1 e2 e3 e4 l1 l2 l3 l4 => by
    rw [hkn]
    exact cd_new e1 (hZ ▸ e2) e3 (hY ▸ e4) (by simp) h64 hk4 l1 l2 l3 l4
  clear hZ hY h64 hkn
  rcases Int.lt_or_le n 0 with q0 | q0
  · obtain rfl : k = 0 := by rw [hk]; unfold Dk.count; omega
    replace h1 : ∀ (w : World), (Instr.makeSlice 73 (.int .i64 0) (.int .i64 0)).run Try.prog w = .ok (.slice (some ⟨w.heap.size, 0, none⟩) 0 0) (w.alloc (.cells Z 84)) := h1
    replace h2 : ∀ (w : World), (Instr.makeSlice 49 (.int .i64 0) (.int .i64 0)).run Try.prog w = .ok (.slice (some ⟨w.heap.size, 0, none⟩) 0 0) (w.alloc (.cells Y 4)) := h2
    clear hk hk4 hn
    go_enter Try.func12, Try.ntmps12
    go_wp2_with fail
    go_region
    all_goals
      go_wp2
      go_ret
      refine ⟨_, rfl, FIN.out _ _ _ _ _ (four_new _ _ _ _ _).2.2.2 ?_ ?_ ?_ ?_ ?_ ?_ ?_, four_below _ _ _ _ _⟩
      all_goals first | omega | exact (four_new _ _ _ _ _).1 | exact (four_new _ _ _ _ _).2.1 | exact (four_new _ _ _ _ _).2.2.1
  rcases Int.lt_or_le 4096 n with q1 | q1
  · obtain rfl : k = 4096 := by rw [hk]; unfold Dk.count; omega
    replace h1 : ∀ (w : World), (Instr.makeSlice 73 (.int .i64 4096) (.int .i64 4096)).run Try.prog w = .ok (.slice (some ⟨w.heap.size, 0, none⟩) 4096 4096) (w.alloc (.cells Z 84)) := h1
    replace h2 : ∀ (w : World), (Instr.makeSlice 49 (.int .i64 4096) (.int .i64 4096)).run Try.prog w = .ok (.slice (some ⟨w.heap.size, 0, none⟩) 4096 4096) (w.alloc (.cells Y 4)) := h2
    clear hk hk4 hn
    go_enter Try.func12, Try.ntmps12
    go_wp2_with fail
    go_region
    all_goals
      go_wp2
      go_ret
      refine ⟨_, rfl, FIN.out _ _ _ _ _ (four_new _ _ _ _ _).2.2.2 ?_ ?_ ?_ ?_ ?_ ?_ ?_, four_below _ _ _ _ _⟩
      all_goals first | omega | exact (four_new _ _ _ _ _).1 | exact (four_new _ _ _ _ _).2.1 | exact (four_new _ _ _ _ _).2.2.1
  · obtain rfl : n = (k : Int) := by rw [hk]; unfold Dk.count; omega
    clear hk hn q0
    have q3 : ¬ ((k : Int) < 0) := by omega
    go_enter Try.func12, Try.ntmps12
    go_wp2_with fail
    go_region
    all_goals
      go_wp2
      go_ret
      refine ⟨_, rfl, FIN.out _ _ _ _ _ (four_new _ _ _ _ _).2.2.2 ?_ ?_ ?_ ?_ ?_ ?_ ?_, four_below _ _ _ _ _⟩
      all_goals first | omega | exact (four_new _ _ _ _ _).1 | exact (four_new _ _ _ _ _).2.1 | exact (four_new _ _ _ _ _).2.2.1