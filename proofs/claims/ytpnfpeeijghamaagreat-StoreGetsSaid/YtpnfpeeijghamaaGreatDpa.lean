/- The code's own Disk in memory, and the contracts of its small methods: made, Size, has, spend, Dead, Cached, Arm, Fault. The code's own Disk: New. The code's own Disk: all calls on one that nobody made; Read. The code's own Disk: Read. The code's own Disk: Write, where it goes well. -/
import Derived.Test.YtpnfpeeijghamaaGreatDe
import Derived.Test.YtpnfpeeijghamaaGreatDk
import Derived.Test.YtpnfpeeijghamaaGreatMm
import Derived.WalkSpells
import Derived.Test.YtpnfpeeijghamaaGreatRg
namespace Go.Proofs.YtpnfpeeijghamaaGreat
open Go.RowKit
set_option maxRecDepth 100000

/-- A cached write: its place among all, and its bytes. -/
def rcell (x : Nat × List UInt8) : List Value := .int .i64 (x.1 : Int) :: bcells x.2
def rcells (l : List (Nat × List UInt8)) : List Value := l.flatMap rcell
def kcells (s : List (List UInt8)) : List Value := s.flatMap bcells
theorem rcell_len {x : Nat × List UInt8} (h : x.2.length = 64) : (rcell x).length = 65 := by simp [rcell, bcells_len, h]
theorem kcell_len {b : List UInt8} (h : b.length = 64) : (bcells b).length = 64 := by rw [bcells_len, h]
theorem rcell_one (x : Nat × List UInt8) : ∀ u ∈ rcell x, u.oneCell' = true := by
  intro u hu
  rcases List.mem_cons.1 hu with rfl | hu
  · rfl
  · exact bcells_one _ u hu
theorem rcells_snoc (l : List (Nat × List UInt8)) (x : Nat × List UInt8) : rcells (l ++ [x]) = rcells l ++ rcell x := by simp [rcells]

/-- The code's Disk at block q, as these lists tell it; all its blocks are G's. -/
structure CD6 (w : World) (G : Nat → Prop) (q : Nat) (AK : Option Addr) (cK m : Nat) (AF : Option Addr) (cF : Nat) (lf : Int) (s : List (List UInt8)) (c : List (Nat × List UInt8)) (bad : List Bool) (dead : Bool) (D : DataW Value) (n : Nat) (V : Nat → Option Addr × Nat) : Prop where
  fp : G q
  cell : w.heap[q]? = some (.cells #[.slice AK s.length cK, .map (some m), .int .i64 (c.length : Int), .slice AF bad.length cF, .int .i64 lf, .bool dead] 81 (0, 0))
  k : w.ownsRow 0 125 64 (.slice AK s.length cK) s.length (kcells s)
  kF : InF G AK
  mF : G m
  map : w.ownsMap Tryz.prog 3 asIs m n D
  few : n ≤ c.length
  look : ∀ i, i < s.length → at_ D (i : Int) = .held (.slice (V i).1 (Dk.wts c i).length (V i).2)
  has : ∀ i, i < s.length → Maps.has D (key (i : Int)) = !(Dk.wts c i).isEmpty
  keys : ∀ kl, Maps.has D kl = true → ∃ i : Nat, i < s.length ∧ kl = key (i : Int)
  row : ∀ i, i < s.length → w.ownsRow 0 127 65 (.slice (V i).1 (Dk.wts c i).length (V i).2) (Dk.wts c i).length (rcells (Dk.wts c i))
  rowF : ∀ i, i < s.length → InF G (V i).1
  apart : ∀ i j, i < s.length → j < s.length → i ≠ j → ∀ a b, (V i).1 = some a → (V j).1 = some b → a.block ≠ b.block
  f : w.ownsRow 0 4 1 (.slice AF bad.length cF) bad.length (bad.map Value.bool)
  fF : InF G AF
/-- The code's Disk at block q. -/
def CD (w : World) (G : Nat → Prop) (q : Nat) (d : Dk.D) : Prop :=
  ∃ (AK : Option Addr) (cK m : Nat) (AF : Option Addr) (cF : Nat) (lf : Int) (D : DataW Value) (n : Nat) (V : Nat → Option Addr × Nat), CD6 w G q AK cK m AF cF lf d.s d.cache d.bad d.dead D n V ∧ d.left = (if 0 ≤ lf then lf else -1)

/-- What a method of the code's Disk that answers an error's number leaves. -/
def CdOk (G : Nat → Prop) (q : Nat) (er : Int) (d : Dk.D) (w : World) (e : Ending) (w' : World) : Prop := e = .returned (.int .i64 er) ∧ CD w' (Up G w.heap.size) q d ∧ But G w.heap.size w w'
def CdOk0 (G : Nat → Prop) (q : Nat) (d : Dk.D) (w : World) (e : Ending) (w' : World) : Prop := e = .returned (.tuple #[]) ∧ CD w' (Up G w.heap.size) q d ∧ But G w.heap.size w w'
def CNewOk (d : Dk.D) (w : World) (e : Ending) (w' : World) : Prop := ∃ q, e = .returned (.pointer (some ⟨q, 0, none⟩)) ∧ CD w' (fun k => w.heap.size ≤ k) q d ∧ Below w.heap.size w w'

/-- It returned the bytes of a sector of its own (nil, where it failed) and an error's number, and left all older memory alone. -/
def CErrOk (B : Nat) (er : Int) (l : List UInt8) (w : World) (e : Ending) (w' : World) : Prop :=
  ∃ A n c, e = .returned (.tuple #[.slice A n c, .int .i64 er]) ∧ n = l.length ∧ n ≤ c ∧ w'.ownsRow B 125 1 (.slice A n c) n (bcells l) ∧ Below B w w'
theorem CErrOk.bad {w w' : World} {er : Int} (h : Below w.heap.size w w') : CErrOk w.heap.size er [] w (.returned (.tuple #[.slice none 0 0, .int .i64 er])) w' :=
  ⟨none, 0, 0, rfl, rfl, Nat.le_refl _, World.ownsRow_nil _ _ _ _, h⟩

theorem own_keepG {w w' : World} {G : Nat → Prop} {base : Nat} {e : TypeId} {size m n c : Nat} {A : Option Addr} {xs : List Value} (h : w.ownsRow base e size (.slice A m c) n xs) (hF : InF G A) (hk : ∀ k, G k → k < w.heap.size → w'.heap[k]? = w.heap[k]?) : w'.ownsRow base e size (.slice A m c) n xs :=
  own_keep h fun k e => hk k (hF.row k e) (h.lt k e).2
theorem map_keep {P : Program} {w w' : World} {k : TypeId} {R : Value → Option (DataW Value × List MemPlace)} {m n : Nat} {D : DataW Value} (h : w.ownsMap P k R m n D) (hk : w'.heap[m]? = w.heap[m]?) : w'.ownsMap P k R m n D := by
  obtain ⟨es, clock, hb, rest⟩ := h
  exact ⟨es, clock, hk.trans hb, rest⟩
theorem map_ne {P : Program} {w : World} {k : TypeId} {R : Value → Option (DataW Value × List MemPlace)} {m n g : Nat} {D : DataW Value} (h : w.ownsMap P k R m n D) {cs : Array Value} {t : TypeId} {fr : Nat × Nat} (hg : w.heap[g]? = some (.cells cs t fr)) : m ≠ g := by
  rintro rfl
  obtain ⟨es, clock, hb, _⟩ := h
  rw [hb] at hg
  cases hg

section
variable {w w' : World} {F G : Nat → Prop} {q : Nat} {AK : Option Addr} {cK m : Nat} {AF : Option Addr} {cF : Nat} {lf : Int} {s : List (List UInt8)} {c : List (Nat × List UInt8)} {bad : List Bool} {dead : Bool} {D : DataW Value} {n : Nat} {V : Nat → Option Addr × Nat}
theorem CD6.keep (h : CD6 w G q AK cK m AF cF lf s c bad dead D n V) (hk : ∀ k, G k → k < w.heap.size → w'.heap[k]? = w.heap[k]?) : CD6 w' G q AK cK m AF cF lf s c bad dead D n V :=
  ⟨h.fp, (hk q h.fp (lt_of_block h.cell)).trans h.cell, own_keepG h.k h.kF hk, h.kF, h.mF, map_keep h.map (hk m h.mF h.map.lt), h.few, h.look, h.has, h.keys, fun i hi => own_keepG (h.row i hi) (h.rowF i hi) hk, h.rowF, h.apart, own_keepG h.f h.fF hk, h.fF⟩
theorem CD6.mono (h : CD6 w F q AK cK m AF cF lf s c bad dead D n V) (hF : ∀ k, F k → G k) : CD6 w G q AK cK m AF cF lf s c bad dead D n V :=
  ⟨hF q h.fp, h.cell, h.k, h.kF.mono hF, hF m h.mF, h.map, h.few, h.look, h.has, h.keys, h.row, fun i hi => (h.rowF i hi).mono hF, h.apart, h.f, h.fF.mono hF⟩
theorem CD6.cap (h : CD6 w G q AK cK m AF cF lf s c bad dead D n V) : CD6 w (fun k => G k ∧ k < w.heap.size) q AK cK m AF cF lf s c bad dead D n V :=
  ⟨⟨h.fp, lt_of_block h.cell⟩, h.cell, h.k, fun ad e => ⟨h.kF ad e, own_lt h.k ad e⟩, ⟨h.mF, h.map.lt⟩, h.map, h.few, h.look, h.has, h.keys, h.row, fun i hi ad e => ⟨h.rowF i hi ad e, own_lt (h.row i hi) ad e⟩, h.apart, h.f, fun ad e => ⟨h.fF ad e, own_lt h.f ad e⟩⟩
theorem CD.keep {d : Dk.D} (h : CD w G q d) (hk : ∀ k, G k → k < w.heap.size → w'.heap[k]? = w.heap[k]?) : CD w' G q d := by
  obtain ⟨AK, cK, m, AF, cF, lf, D, n, V, r, e⟩ := h
  exact ⟨AK, cK, m, AF, cF, lf, D, n, V, r.keep hk, e⟩
theorem CD.mono {d : Dk.D} (h : CD w F q d) (hF : ∀ k, F k → G k) : CD w G q d := by
  obtain ⟨AK, cK, m, AF, cF, lf, D, n, V, r, e⟩ := h
  exact ⟨AK, cK, m, AF, cF, lf, D, n, V, r.mono hF, e⟩
theorem CD.cap {d : Dk.D} (h : CD w G q d) : CD w (fun k => G k ∧ k < w.heap.size) q d := by
  obtain ⟨AK, cK, m, AF, cF, lf, D, n, V, r, e⟩ := h
  exact ⟨AK, cK, m, AF, cF, lf, D, n, V, r.cap, e⟩
/-- Only the block q has turned, and there what isn't a slice or a map. -/
theorem CD6.reset {lf' : Int} {dead' : Bool} (h : CD6 w G q AK cK m AF cF lf s c bad dead D n V)
    (hq : w'.heap[q]? = some (.cells #[.slice AK s.length cK, .map (some m), .int .i64 (c.length : Int), .slice AF bad.length cF, .int .i64 lf', .bool dead'] 81 (0, 0))) (hk : ∀ k, k ≠ q → w'.heap[k]? = w.heap[k]?) : CD6 w' G q AK cK m AF cF lf' s c bad dead' D n V :=
  ⟨h.fp, hq, own_off h.k h.cell (by decide) hk, h.kF, h.mF, map_keep h.map (hk m (map_ne h.map h.cell)), h.few, h.look, h.has, h.keys, fun i hi => own_off (h.row i hi) h.cell (by decide) hk, h.rowF, h.apart, own_off h.f h.cell (by decide) hk, h.fF⟩
theorem CD6.fields (h : CD6 w G q AK cK m AF cF lf s c bad dead D n V) :
    w.cell? ⟨q, 0, none⟩ = some (.slice AK s.length cK) ∧ w.cell? ⟨q, 1, none⟩ = some (.map (some m)) ∧ w.cell? ⟨q, 2, none⟩ = some (.int .i64 (c.length : Int)) ∧ w.cell? ⟨q, 3, none⟩ = some (.slice AF bad.length cF) ∧ w.cell? ⟨q, 4, none⟩ = some (.int .i64 lf) ∧ w.cell? ⟨q, 5, none⟩ = some (.bool dead) ∧ (∀ j, w.frozen? ⟨q, j, none⟩ = false) := by
  have r := h.cell
  refine ⟨?_, ?_, ?_, ?_, ?_, ?_, fun j => blk_free r j⟩ <;> simp [World.cell?, r]
end

/-- A write or a flush begins, on a disk that isn't dead. -/
theorem CD.same {w : World} {G : Nat → Prop} {q : Nat} {d : Dk.D} (h : CD w G q d) : CD w (Up G w.heap.size) q d := h.mono up_self

set_option maxHeartbeats 1000000 in
theorem cdMade_c {w : World} {G : Nat → Prop} {q : Nat} {d : Dk.D} (h : CD w G q d) :
    Calls Tryz.prog 117 #[.pointer (some ⟨q, 0, none⟩)] w fun e w' => e = .returned (.bool true) ∧ w = w' := by
  obtain ⟨AK, cK, m, AF, cF, lf, D, n, V, r, _⟩ := h
  have c1 := r.fields.2.1
  have qT := fun (w : World) (r : Option Nat) => run_neq_map_nil (P := Tryz.prog) w 79 _ _ r Tryz.underlying79
  clear r
  go_enter Tryz.func117, Tryz.ntmps117
  go_wp2
  go_ret
  exact ⟨rfl, rfl⟩

set_option maxHeartbeats 1000000 in
theorem cdSizeAt_c {w : World} {G : Nat → Prop} {q : Nat} {d : Dk.D} (h : CD w G q d) :
    Calls Tryz.prog 69 #[.pointer (some ⟨q, 0, none⟩)] w fun e w' => e = .returned (.int .i64 (d.s.length : Int)) ∧ w = w' := by
  obtain ⟨AK, cK, m, AF, cF, lf, D, n, V, r, _⟩ := h
  have c0 := r.fields.1
  clear r
  go_enter Tryz.func69, Tryz.ntmps69
  go_wp2
  go_ret
  exact ⟨rfl, rfl⟩

set_option maxHeartbeats 1000000 in
theorem cdHas_c {w : World} {G : Nat → Prop} {q : Nat} {d : Dk.D} (h : CD w G q d) (i : Int) :
    Calls Tryz.prog 105 #[.pointer (some ⟨q, 0, none⟩), .int .i64 i] w fun e w' => e = .returned (.bool (Dk.has d i)) ∧ w = w' := by
  have H := Lib.hid h
  have E : Hid (Dk.has d i = (decide (0 ≤ i) && decide (i < (d.s.length : Int)))) := rfl
  clear h
  by_cases h0 : 0 ≤ i
  · go_enter Tryz.func105, Tryz.ntmps105
    go_wp2_with (go_at_call 69; refine (cdSizeAt_c H.out).mono ?_; rintro e w1 ⟨rfl, rfl⟩)
    go_ret
    exact ⟨ret_bool (by rw [E.out]; simp [h0]), rfl⟩
  · go_enter Tryz.func105, Tryz.ntmps105
    go_wp2
    go_ret
    exact ⟨ret_bool (by rw [E.out]; simp; omega), rfl⟩

theorem cdDead_at {w : World} {G : Nat → Prop} {q : Nat} {d : Dk.D} (h : CD w G q d) :
    Calls Tryz.prog 104 #[.pointer (some ⟨q, 0, none⟩)] w fun e w' => e = .returned (.bool d.dead) ∧ w = w' := by
  obtain ⟨AK, cK, m, AF, cF, lf, D, n, V, r, _⟩ := h
  have c5 := r.fields.2.2.2.2.2.1
  clear r
  go_enter Tryz.func104, Tryz.ntmps104
  go_wp2
  go_ret
  exact ⟨rfl, rfl⟩
theorem cdDead_c {w : World} {G : Nat → Prop} {q : Nat} {d : Dk.D} (h : CD w G q d) :
    Calls Tryz.prog 104 #[.pointer (some ⟨q, 0, none⟩)] w fun e w' => e = .returned (.bool d.dead) ∧ Below w.heap.size w w' :=
  (cdDead_at h).mono fun _ _ ⟨he, hw⟩ => ⟨he, by subst hw; exact Below.refl _ _⟩
theorem cdSize_c {w : World} {G : Nat → Prop} {q : Nat} {d : Dk.D} (h : CD w G q d) :
    Calls Tryz.prog 69 #[.pointer (some ⟨q, 0, none⟩)] w fun e w' => e = .returned (.int .i64 (d.s.length : Int)) ∧ Below w.heap.size w w' :=
  (cdSizeAt_c h).mono fun _ _ ⟨he, hw⟩ => ⟨he, by subst hw; exact Below.refl _ _⟩

set_option maxHeartbeats 1000000 in
theorem cdSpend_c {w : World} {G : Nat → Prop} {q : Nat} {d : Dk.D} (h : CD w G q d) (hd : d.dead = false) (hl : d.left ≤ 9223372036854775807) :
    Calls Tryz.prog 112 #[.pointer (some ⟨q, 0, none⟩)] w (CdOk G q (Dk.act d).1 (Dk.act d).2 w) := by
  obtain ⟨AK, cK, m, AF, cF, lf, D, n, V, r, e⟩ := h
  obtain ⟨_, _, _, _, c4, c5, fz⟩ := r.fields
  have R := Lib.hid r
  have f4 := fz 4
  have f5 := fz 5
  have fp := r.fp
  clear r fz
  by_cases h0 : lf = 0
  · subst h0
    have hl0 : d.left = 0 := e
    have he : Dk.act d = (50, { d with dead := true }) := by unfold Dk.act; rw [if_pos (Or.inr hl0)]
    have HE := Lib.hid he
    have E := Lib.hid e
    clear he hl0 e hl hd
    go_enter Tryz.func112, Tryz.ntmps112
    go_wp2
    go_ret
    rw [HE.out]
    refine ⟨rfl, ⟨AK, cK, m, AF, cF, 0, D, n, V, (CD6.reset (lf' := 0) (dead' := true) R.out ?_ set_off).mono up_self, E.out⟩, (But.refl _ _ _).setCell (Or.inl fp) _⟩
    rw [blk_set R.out.cell]; rfl
  · have q0 : (lf == 0) = false := by simpa using h0
    by_cases h1 : 0 < lf
    · have hl1 : d.left = lf := by rw [e, if_pos (by omega)]
      have he : Dk.act d = (0, { d with left := d.left - 1 }) := by unfold Dk.act; rw [if_neg (by rw [hd, hl1]; simp [h0]), if_pos (by omega)]
      have hlf : lf ≤ 9223372036854775807 := by omega
      have HE := Lib.hid he
      have HL := Lib.hid hl1
      clear he e hl hl1 hd
      go_enter Tryz.func112, Tryz.ntmps112
      go_wp2
      go_ret
      rw [HE.out]
      refine ⟨rfl, ⟨AK, cK, m, AF, cF, lf - 1, D, n, V, (CD6.reset (lf' := lf - 1) (dead' := d.dead) R.out ?_ set_off).mono up_self, ?_⟩, (But.refl _ _ _).setCell (Or.inl fp) _⟩
      · rw [blk_set R.out.cell]; rfl
      · rw [if_pos (by omega)]
        show d.left - 1 = lf - 1
        rw [HL.out]
    · have hl1 : d.left = -1 := by rw [e, if_neg (by omega)]
      have he : Dk.act d = (0, d) := by unfold Dk.act; rw [if_neg (by rw [hd, hl1]; simp), if_neg (by omega)]
      have HE := Lib.hid he
      have E := Lib.hid e
      clear he e hl hl1 hd
      go_enter Tryz.func112, Tryz.ntmps112
      go_wp2
      go_ret
      rw [HE.out]
      exact ⟨rfl, ⟨AK, cK, m, AF, cF, lf, D, n, V, R.out.mono up_self, E.out⟩, But.refl _ _ _⟩

set_option maxHeartbeats 1000000 in
theorem cdArm_c {w : World} {G : Nat → Prop} {q : Nat} {d : Dk.D} (h : CD w G q d) (n : Int) :
    Calls Tryz.prog 18 #[.pointer (some ⟨q, 0, none⟩), .int .i64 n] w (CdOk0 G q (Dk.arm d n) w) := by
  obtain ⟨AK, cK, m, AF, cF, lf, D, nn, V, r, e⟩ := h
  obtain ⟨_, _, _, _, c4, _, fz⟩ := r.fields
  have R := Lib.hid r
  have f4 := fz 4
  have fp := r.fp
  clear r fz e
  go_enter Tryz.func18, Tryz.ntmps18
  go_wp2
  go_end0
  refine ⟨rfl, ⟨AK, cK, m, AF, cF, n, D, nn, V, (CD6.reset (lf' := n) (dead' := d.dead) R.out ?_ set_off).mono up_self, rfl⟩, (But.refl _ _ _).setCell (Or.inl fp) _⟩
  rw [blk_set R.out.cell]; rfl

theorem Tryz.infoSector : (Tryz.prog.info? 125).map (fun i => (i.zero, i.size, i.bytes)) = some (some (.agg (Array.replicate 64 (.int .u8 0))), 64, 64) := by kernel_rfl

theorem kcells_zero (k : Nat) : kcells (List.replicate k Dk.zero64) = List.replicate (k * 64) (.int .u8 0) := by
  induction k with
  | zero => rfl
  | succ k ih =>
    rw [List.replicate_succ, show kcells (Dk.zero64 :: List.replicate k Dk.zero64) = bcells Dk.zero64 ++ kcells (List.replicate k Dk.zero64) from rfl, ih, show bcells Dk.zero64 = List.replicate 64 (.int .u8 0) from rfl, List.replicate_append_replicate, show 64 + k * 64 = (k + 1) * 64 by omega]
theorem made_zero (k : Nat) : madeCells (Array.replicate 64 (.int .u8 0)) (k * 64) = (kcells (List.replicate k Dk.zero64)).toArray := by
  rw [kcells_zero]
  apply Array.ext
  · simp [madeCells]
  · intro i h1 h2
    simp [madeCells, Nat.mod_lt]
theorem made_false (k : Nat) : madeCells #[.bool false] k = ((List.replicate k false).map Value.bool).toArray := by
  apply Array.ext
  · simp [madeCells]
  · intro i h1 h2
    simp [madeCells, Nat.mod_one]

theorem mk_sectors (k : Nat) (hk : k ≤ 4096) (w : World) : (Instr.makeSlice 78 (.int .i64 (k : Int)) (.int .i64 (k : Int))).run Tryz.prog w = .ok (.slice (some ⟨w.heap.size, 0, none⟩) k k) (w.alloc (.cells (kcells (List.replicate k Dk.zero64)).toArray 125)) := by
  obtain ⟨ti, hi, iz0, iz1, iz2⟩ := info_parts Tryz.infoSector
  have q := run_make (P := Tryz.prog) w 78 125 ti _ Tryz.underlying78 hi iz0 .i64 .i64 k k (by omega) (Int.le_refl _) (by rw [iz2]; omega) (by omega)
  rw [q, Int.toNat_natCast, iz1]
  show Result.ok _ (w.alloc (.cells (madeCells (Array.replicate 64 (.int .u8 0)) (k * 64)) _)) = _
  rw [made_zero]
theorem mk_bools (k : Nat) (hk : k ≤ 4096) (w : World) : (Instr.makeSlice 38 (.int .i64 (k : Int)) (.int .i64 (k : Int))).run Tryz.prog w = .ok (.slice (some ⟨w.heap.size, 0, none⟩) k k) (w.alloc (.cells ((List.replicate k false).map Value.bool).toArray 4)) := by
  obtain ⟨ti, hi, iz0, iz1, iz2⟩ := info_parts Tryz.infoBool
  have q := run_make (P := Tryz.prog) w 38 4 ti _ Tryz.underlying38 hi iz0 .i64 .i64 k k (by omega) (Int.le_refl _) (by rw [iz2]; omega) (by omega)
  rw [q, Int.toNat_natCast, iz1, Nat.mul_one]
  show Result.ok _ (w.alloc (.cells (madeCells #[.bool false] k) _)) = _
  rw [made_false]

theorem own_block {w : World} {g k size : Nat} {e : TypeId} {xs : List Value} (hg : w.heap[g]? = some (.cells xs.toArray e (0, 0))) (hl : xs.length = k * size) (hk : k ≤ maxLen) : w.ownsRow 0 e size (.slice (some ⟨g, 0, none⟩) k k) k xs :=
  ⟨hl, .inr ⟨g, k, xs.toArray, rfl, Nat.zero_le _, hg, Nat.le_refl _, hk, by simpa using hl, by rw [← hl]; simp⟩⟩

theorem four_new (w : World) (A B C D : Obj) : ((((w.alloc A).alloc B).alloc C).alloc D).drew.heap[w.heap.size]? = some A ∧ ((((w.alloc A).alloc B).alloc C).alloc D).drew.heap[w.heap.size + 1]? = some B ∧
    ((((w.alloc A).alloc B).alloc C).alloc D).drew.heap[w.heap.size + 1 + 1]? = some C ∧ ((((w.alloc A).alloc B).alloc C).alloc D).drew.heap[w.heap.size + 1 + 1 + 1]? = some D := by
  have e1 := blk_alloc (blk_alloc (blk_alloc (heap_alloc_new w A) B) C) D
  have e2 := blk_alloc (blk_alloc (heap_alloc_new (w.alloc A) B) C) D
  have e3 := blk_alloc (heap_alloc_new ((w.alloc A).alloc B) C) D
  have e4 := heap_alloc_new (((w.alloc A).alloc B).alloc C) D
  simp only [World.size_alloc] at e2 e3 e4
  exact ⟨e1, e2, e3, e4⟩
theorem four_below (w : World) (A B C D : Obj) : Below w.heap.size w ((((w.alloc A).alloc B).alloc C).alloc D).drew :=
  (((((Below.refl _ _).alloc (Nat.le_refl _) A).alloc (by simp) B).alloc (by simp; omega) C).alloc (by simp; omega) D).drew

/-- A new disk, whatever its sectors. -/
theorem cd_new {w : World} {G : Nat → Prop} {q gK m gF k : Nat} {s : List (List UInt8)} (hq : w.heap[q]? = some (.cells #[.slice (some ⟨gK, 0, none⟩) k k, .map (some m), .int .i64 0, .slice (some ⟨gF, 0, none⟩) k k, .int .i64 (-1), .bool false] 81 (0, 0)))
    (hK : w.heap[gK]? = some (.cells (kcells s).toArray 125 (0, 0))) (hm : w.heap[m]? = some (.map #[] 0)) (hF : w.heap[gF]? = some (.cells ((List.replicate k false).map Value.bool).toArray 4 (0, 0)))
    (hs : s.length = k) (h64 : ∀ b ∈ s, b.length = 64) (hk : k ≤ 4096) (g1 : G q) (g2 : G gK) (g3 : G m) (g4 : G gF) : CD w G q { Dk.fresh k with s := s } := by
  subst hs
  have hl : (kcells s).length = s.length * 64 := cel_len fun b hb => kcell_len (h64 b hb)
  refine ⟨some ⟨gK, 0, none⟩, s.length, m, some ⟨gF, 0, none⟩, s.length, -1, .map [], 0, fun _ => (none, 0), ⟨g1, ?_, own_block hK hl (by show s.length ≤ maxLen; unfold maxLen; omega), fun ad e => ?_, g3, ⟨#[], 0, hm, ⟨by simp, MapKept.stamped_empty 0, by simp⟩, Nat.le_refl _, rfl⟩, Nat.le_refl _, fun i _ => rfl, fun i _ => rfl, fun kl h => (by rw [has_empty] at h; cases h), fun i _ => World.ownsRow_nil _ _ _ _, fun i _ => InF.none, fun i j _ _ _ a b e => (by cases e), ?_, fun ad e => ?_⟩, by rw [if_neg (by omega)]; rfl⟩
  · rw [hq]
    simp [Dk.fresh]
  · injection e with e; subst e; exact g2
  · have := own_block hF (k := s.length) (size := 1) (by simp) (by unfold maxLen; omega)
    simpa [Dk.fresh] using this
  · injection e with e; subst e; exact g4


set_option maxHeartbeats 4000000 in
theorem cdNew_c (n : Int) (w : World) (hn : n ≤ 9223372036854775807) :
    Calls Tryz.prog 13 #[.int .i64 n] w (CNewOk (Dk.new n) w) := by
  have hmm := @run_makeMap Tryz.prog
  obtain ⟨k, hk, hkn⟩ : ∃ k, k = Dk.count n ∧ Dk.new n = Dk.fresh k := ⟨_, rfl, rfl⟩
  have hk4 : k ≤ 4096 := by rw [hk]; unfold Dk.count; omega
  obtain ⟨Z, hZ⟩ : ∃ Z, Z = (kcells (List.replicate k Dk.zero64)).toArray := ⟨_, rfl⟩
  obtain ⟨Y, hY⟩ : ∃ Y, Y = ((List.replicate k false).map Value.bool).toArray := ⟨_, rfl⟩
  have h1 := mk_sectors k hk4
  have h2 := mk_bools k hk4
  rw [← hZ] at h1
  rw [← hY] at h2
  have h64 : ∀ b ∈ List.replicate k Dk.zero64, b.length = 64 := fun b hb => by rw [List.eq_of_mem_replicate hb]; rfl
  have FIN : Hid (∀ (w' : World) (q gK m gF : Nat), w'.heap[q]? = some (.cells #[.slice (some ⟨gK, 0, none⟩) k k, .map (some m), .int .i64 0, .slice (some ⟨gF, 0, none⟩) k k, .int .i64 (-1), .bool false] 81 (0, 0)) → w'.heap[gK]? = some (.cells Z 125 (0, 0)) → w'.heap[m]? = some (.map #[] 0) → w'.heap[gF]? = some (.cells Y 4 (0, 0)) → w.heap.size ≤ q → w.heap.size ≤ gK → w.heap.size ≤ m → w.heap.size ≤ gF → CD w' (fun k => w.heap.size ≤ k) q (Dk.new n)) := Lib.hid fun w' q gK m gF e1 e2 e3 e4 l1 l2 l3 l4 => by
    rw [hkn]
    exact cd_new e1 (hZ ▸ e2) e3 (hY ▸ e4) (by simp) h64 hk4 l1 l2 l3 l4
  clear hZ hY h64 hkn
  rcases Int.lt_or_le n 0 with q0 | q0
  · obtain rfl : k = 0 := by rw [hk]; unfold Dk.count; omega
    replace h1 : ∀ (w : World), (Instr.makeSlice 78 (.int .i64 0) (.int .i64 0)).run Tryz.prog w = .ok (.slice (some ⟨w.heap.size, 0, none⟩) 0 0) (w.alloc (.cells Z 125)) := h1
    replace h2 : ∀ (w : World), (Instr.makeSlice 38 (.int .i64 0) (.int .i64 0)).run Tryz.prog w = .ok (.slice (some ⟨w.heap.size, 0, none⟩) 0 0) (w.alloc (.cells Y 4)) := h2
    clear hk hk4 hn
    go_enter Tryz.func13, Tryz.ntmps13
    go_wp2_with fail
    go_region
    all_goals
      go_wp2
      go_ret
      refine ⟨_, rfl, FIN.out _ _ _ _ _ (four_new _ _ _ _ _).2.2.2 ?_ ?_ ?_ ?_ ?_ ?_ ?_, four_below _ _ _ _ _⟩
      all_goals first | omega | exact (four_new _ _ _ _ _).1 | exact (four_new _ _ _ _ _).2.1 | exact (four_new _ _ _ _ _).2.2.1
  rcases Int.lt_or_le 4096 n with q1 | q1
  · obtain rfl : k = 4096 := by rw [hk]; unfold Dk.count; omega
    replace h1 : ∀ (w : World), (Instr.makeSlice 78 (.int .i64 4096) (.int .i64 4096)).run Tryz.prog w = .ok (.slice (some ⟨w.heap.size, 0, none⟩) 4096 4096) (w.alloc (.cells Z 125)) := h1
    replace h2 : ∀ (w : World), (Instr.makeSlice 38 (.int .i64 4096) (.int .i64 4096)).run Tryz.prog w = .ok (.slice (some ⟨w.heap.size, 0, none⟩) 4096 4096) (w.alloc (.cells Y 4)) := h2
    clear hk hk4 hn
    go_enter Tryz.func13, Tryz.ntmps13
    go_wp2_with fail
    go_region
    all_goals
      go_wp2
      go_ret
      refine ⟨_, rfl, FIN.out _ _ _ _ _ (four_new _ _ _ _ _).2.2.2 ?_ ?_ ?_ ?_ ?_ ?_ ?_, four_below _ _ _ _ _⟩
      all_goals first | omega | exact (four_new _ _ _ _ _).1 | exact (four_new _ _ _ _ _).2.1 | exact (four_new _ _ _ _ _).2.2.1
  · obtain rfl : n = (k : Int) := by rw [hk]; unfold Dk.count; omega
    clear hk hn q0
    have q3 : ¬ ((k : Int) < 0) := by omega
    go_enter Tryz.func13, Tryz.ntmps13
    go_wp2_with fail
    go_region
    all_goals
      go_wp2
      go_ret
      refine ⟨_, rfl, FIN.out _ _ _ _ _ (four_new _ _ _ _ _).2.2.2 ?_ ?_ ?_ ?_ ?_ ?_ ?_, four_below _ _ _ _ _⟩
      all_goals first | omega | exact (four_new _ _ _ _ _).1 | exact (four_new _ _ _ _ _).2.1 | exact (four_new _ _ _ _ _).2.2.1

theorem ndSizeAt_c (w : World) :
    Calls Tryz.prog 69 #[.pointer none] w fun e w' => e = .returned (.int .i64 0) ∧ w = w' := by
  go_enter Tryz.func69, Tryz.ntmps69
  go_wp2
  go_ret
  exact ⟨rfl, rfl⟩
theorem ndMade_c (w : World) :
    Calls Tryz.prog 117 #[.pointer none] w fun e w' => e = .returned (.bool false) ∧ w = w' := by
  go_enter Tryz.func117, Tryz.ntmps117
  go_wp2
  go_ret
  exact ⟨rfl, rfl⟩
theorem ndDeadAt_c (w : World) :
    Calls Tryz.prog 104 #[.pointer none] w fun e w' => e = .returned (.bool false) ∧ w = w' := by
  go_enter Tryz.func104, Tryz.ntmps104
  go_wp2
  go_ret
  exact ⟨rfl, rfl⟩
theorem ndHas_c (i : Int) (w : World) :
    Calls Tryz.prog 105 #[.pointer none, .int .i64 i] w fun e w' => e = .returned (.bool false) ∧ w = w' := by
  by_cases h0 : 0 ≤ i
  · go_enter Tryz.func105, Tryz.ntmps105
    go_wp2_with (go_at_call 69; refine (ndSizeAt_c _).mono ?_; rintro e w1 ⟨rfl, rfl⟩)
    go_ret
    exact ⟨ret_bool (by simp; omega), rfl⟩
  · go_enter Tryz.func105, Tryz.ntmps105
    go_wp2
    go_ret
    exact ⟨rfl, rfl⟩
theorem ndArm_c (n : Int) (w : World) :
    Calls Tryz.prog 18 #[.pointer none, .int .i64 n] w fun e w' => e = .returned (.tuple #[]) ∧ Below w.heap.size w w' := by
  go_enter Tryz.func18, Tryz.ntmps18
  go_wp2
  go_end0
  exact ⟨rfl, Below.refl _ _⟩
theorem ndCrash_c (A : Option Addr) (n c : Nat) (w : World) :
    Calls Tryz.prog 20 #[.pointer none, .slice A n c] w fun e w' => e = .returned (.tuple #[]) ∧ Below w.heap.size w w' := by
  go_enter Tryz.func20, Tryz.ntmps20
  go_wp2
  refine bodyPost_ret (results_none rfl _ _ _) rfl ?_
  exact ⟨rfl, (Below.refl _ _).alloc (Nat.le_refl _) _⟩
theorem ndWrite_c (i : Int) (A : Option Addr) (n c : Nat) (w : World) :
    Calls Tryz.prog 95 #[.pointer none, .int .i64 i, .slice A n c] w fun e w' => e = .returned (.int .i64 1) ∧ Below w.heap.size w w' := by
  go_enter Tryz.func95, Tryz.ntmps95
  go_wp2_with (first | (go_at_call 104; refine (ndDeadAt_c _).mono ?_; rintro e w1 ⟨rfl, rfl⟩) | (go_at_call 105; refine (ndHas_c i _).mono ?_; rintro e w1 ⟨rfl, rfl⟩))
  go_ret
  exact ⟨rfl, Below.refl _ _⟩
theorem ndFlush_c (w : World) :
    Calls Tryz.prog 103 #[.pointer none] w fun e w' => e = .returned (.int .i64 0) ∧ Below w.heap.size w w' := by
  go_enter Tryz.func103, Tryz.ntmps103
  go_wp2_with (go_at_call 117; refine (ndMade_c _).mono ?_; rintro e w1 ⟨rfl, rfl⟩)
  go_ret
  exact ⟨rfl, Below.refl _ _⟩
theorem ndSize_c (w : World) :
    Calls Tryz.prog 69 #[.pointer none] w fun e w' => e = .returned (.int .i64 0) ∧ Below w.heap.size w w' :=
  (ndSizeAt_c w).mono fun _ _ ⟨he, hw⟩ => ⟨he, by subst hw; exact Below.refl _ _⟩
theorem ndDead_c (w : World) :
    Calls Tryz.prog 104 #[.pointer none] w fun e w' => e = .returned (.bool false) ∧ Below w.heap.size w w' :=
  (ndDeadAt_c w).mono fun _ _ ⟨he, hw⟩ => ⟨he, by subst hw; exact Below.refl _ _⟩
theorem ndRead_c (i : Int) (w : World) :
    Calls Tryz.prog 85 #[.pointer none, .int .i64 i] w (CErrOk w.heap.size 1 [] w) := by
  go_enter Tryz.func85, Tryz.ntmps85
  go_wp2_with (first | (go_at_call 104; refine (ndDeadAt_c _).mono ?_; rintro e w1 ⟨rfl, rfl⟩) | (go_at_call 105; refine (ndHas_c i _).mono ?_; rintro e w1 ⟨rfl, rfl⟩))
  go_ret2
  exact CErrOk.bad (Below.refl _ _)

theorem Tryz.zeroSector : (Tryz.prog.info? 125).map (fun i => (i.zero, i.size)) = some (some (.agg (Array.replicate 64 (.int .u8 0))), 64) := by kernel_rfl
theorem Tryz.sizeSector : (Tryz.prog.info? 125).map (·.size) = some 64 := by kernel_rfl
theorem Tryz.zeroWrites (w : World) : (zeroValue 123).run Tryz.prog w = .ok (.slice none 0 0) w := by kernel_rfl

theorem own_blockB {w : World} {B g k size : Nat} {e : TypeId} {xs : List Value} (hB : B ≤ g) (hg : w.heap[g]? = some (.cells xs.toArray e (0, 0))) (hl : xs.length = k * size) (hk : k ≤ maxLen) : w.ownsRow B e size (.slice (some ⟨g, 0, none⟩) k k) k xs :=
  ⟨hl, .inr ⟨g, k, xs.toArray, rfl, hB, hg, Nat.le_refl _, hk, by simpa using hl, by rw [← hl]; simp⟩⟩
theorem key_wf {i : Nat} (h : i ≤ 4096) : (key (i : Int)).wf = true := by
  unfold key
  exact WalkArith.wf_i64 (by omega)

set_option maxHeartbeats 2000000 in
theorem cdRead_ok {w : World} {G : Nat → Prop} {q : Nat} {d : Dk.D} (h : CD w G q d) (hd : d.ok) (k : Nat) (hk : k < d.s.length) (hh : Dk.has d (k : Int) = true) (hdd : d.dead = false) (hb : d.bad.getD k false = false) (hcl : d.cache.length ≤ 100000000) :
    Calls Tryz.prog 85 #[.pointer (some ⟨q, 0, none⟩), .int .i64 (k : Int)] w (CErrOk w.heap.size 0 (Dk.look d k) w) := by
  have H := Lib.hid h
  obtain ⟨AK, cK, m, AF, cF, lf, D, n, V, r, e⟩ := h
  obtain ⟨c0, c1, _, c3, _, _, _⟩ := r.fields
  have hkb : k < d.bad.length := by rw [hd.bads]; exact hk
  have hk4 : k ≤ 4096 := by have := hd.few; omega
  obtain ⟨gF, rfl, _, _, hcF, _⟩ := own_at r.f (by omega)
  have cf := hcF k (.bool false) (by
    rw [List.getElem?_map, List.getElem?_eq_getElem hkb]
    rw [List.getD_eq_getElem?_getD, List.getElem?_eq_getElem hkb] at hb
    simp only [Option.getD_some] at hb
    rw [hb]; rfl)
  obtain ⟨gK, capK, hAK, _, hgK⟩ := r.k.form (by omega)
  injection hAK with hAK _ hcK
  subst hAK
  have hs64 : ∀ b ∈ d.s, (bcells b).length = 64 := fun b hb => kcell_len (hd.secs b hb)
  have sk := Dk.getD_at hk
  obtain ⟨b, hbb⟩ : ∃ b, b = d.s.getD k [] := ⟨_, rfl⟩
  rw [← hbb] at sk
  obtain ⟨Bs, hBs⟩ : ∃ Bs, Bs = bcells b := ⟨_, rfl⟩
  have RK : Hid (w.rangeAt gK (k * 64) Bs) := Lib.hid (hBs ▸ own_range r.k (cel_range hs64 sk))
  have s64 : Hid (Bs.length = 64) := Lib.hid (hBs ▸ hs64 _ (List.mem_of_getElem? sk))
  have B1 : Hid (Bs.toArray.all (·.oneCell') = true) := Lib.hid (all_oneCell_toArray (hBs ▸ bcells_one b))
  have SZ : Hid ((Tryz.prog.info? 125).map (·.size) = some Bs.toArray.size) := Lib.hid (by have e := s64.out; simp only [List.size_toArray, e]; exact Tryz.sizeSector)
  have SZ0 : Hid ((Array.replicate 64 (Value.int .u8 0)).size = Bs.toArray.size) := Lib.hid (by have e := s64.out; simp only [List.size_toArray, e, Array.size_replicate])
  have HD := Lib.hid hd
  have HH := Lib.hid hh
  have HDD := Lib.hid hdd
  have R := Lib.hid r
  have kl : (k : Int) < (d.s.length : Int) := by omega
  have kb : (k : Int) < (d.bad.length : Int) := by omega
  have k0 : (k : Int) ≤ 4096 := by omega
  have SL : Hid (Dk.look d k = Dk.lastOf b (Dk.wts d.cache k)) := Lib.hid (by rw [hbb]; exact Dk.seen_wts (d.s.getD k []) k d.cache)
  have HBS := Lib.hid hBs
  have B64 : Hid (b.length = 64) := Lib.hid (by have := s64.out; rw [hBs, bcells_len] at this; exact this)
  have LK : Hid (∀ o : Obj, (Instr.lookup 79 (.map (some m)) (.int .i64 (k : Int)) true).run Tryz.prog (w.alloc o) = .ok (.tuple #[.slice (V k).1 (Dk.wts d.cache k).length (V k).2, .bool (!(Dk.wts d.cache k).isEmpty)]) (w.alloc o)) := Lib.hid fun o => by
    have q1 := map_look_ok (P := Tryz.prog) (t := 79) (r.map.alloc o) Tryz.underlying3 Tryz.underlying79 (Tryz.zeroWrites _) (key_wf hk4) (r.look k hk)
    rw [q1, r.has k hk]
  have ql := lt_of_block r.cell
  have c1' : ∀ o, (w.alloc o).cell? ⟨q, 1, none⟩ = some (.map (some m)) := fun o => ((Below.refl w.heap.size w).alloc (Nat.le_refl _) o |>.cell (p := ⟨q, 1, none⟩) ql).trans c1
  clear r e hcF hb hd hs64 sk hgK hh hdd hbb hBs
  have ZS : Hid (w.heap[w.heap.size]? = none) := Lib.hid (Array.getElem?_eq_none (Nat.le_refl _))
  by_cases hw : Dk.wts d.cache k = []
  · have lk := LK.out
    rw [hw] at lk
    replace lk : ∀ o : Obj, (Instr.lookup 79 (.map (some m)) (.int .i64 (k : Int)) true).run Tryz.prog (w.alloc o) = .ok (.tuple #[.slice (V k).1 0 (V k).2, .bool false]) (w.alloc o) := lk
    have ELK : Hid (Dk.look d k = b) := Lib.hid (by rw [SL.out, hw]; rfl)
    clear hw
    go_enter Tryz.func85, Tryz.ntmps85
    go_wp2_with fail
    refine (cdDead_at H.out).mono ?_
    rw [HDD.out]
    rintro e w1 ⟨rfl, rfl⟩
    go_wp2_with fail
    refine (cdHas_c H.out k).mono ?_
    rw [HH.out]
    rintro e w1 ⟨rfl, rfl⟩
    go_wp2_with (first | (refine wpList_load_mid rfl 125 (.tmp 27) rfl gK (k * 64) rfl Bs _ RK.out Tryz.underlying125 rfl SZ.out ?_) | (refine wpList_alloc_zero rfl 125 rfl Tryz.zeroSector ?_) | (refine wpList_store_new rfl 125 (.tmp 6) (.tmp 28) rfl (Array.replicate 64 (.int .u8 0)) Bs.toArray rfl rfl SZ.out SZ0.out B1.out ?_))
    go_ret2
    rw [ELK.out]
    exact ⟨_, 64, 64, rfl, B64.out.symm, Nat.le_refl _, own_blockB (Nat.le_refl _) (by rw [← HBS.out]; exact heap_alloc_new w _) (by rw [bcells_len, B64.out]) (by unfold maxLen; omega), (Below.refl _ _).alloc (Nat.le_refl _) _⟩
  · obtain ⟨L, hL⟩ : ∃ L, L = (Dk.wts d.cache k).length := ⟨_, rfl⟩
    have hL1 : 1 ≤ L := by
      rcases Nat.eq_zero_or_pos L with q0 | q0
      · exact absurd (List.eq_nil_of_length_eq_zero (hL.symm.trans q0)) hw
      · exact q0
    have hwl := Dk.wts_len d.cache k
    have hL2 : L ≤ 100000000 := by omega
    have lk := LK.out
    rw [← hL, show (Dk.wts d.cache k).isEmpty = false from by simpa using hw] at lk
    obtain ⟨x, hx⟩ : ∃ x, (Dk.wts d.cache k)[L - 1]? = some x := ⟨_, List.getElem?_eq_getElem (by omega)⟩
    have hx64 := HD.out.at_ _ (Dk.wts_mem (List.mem_of_getElem? hx)).2
    obtain ⟨Cs, hCs⟩ : ∃ Cs, Cs = bcells x.2 := ⟨_, rfl⟩
    have rw_ := R.out.row k hk
    rw [← hL] at rw_
    obtain ⟨gV, capV, hAV, _, hgV⟩ := rw_.form hL1
    injection hAV with hAV _ hcV
    have V2 := R.out.rowF k hk
    rw [hAV] at rw_ lk V2
    have RV : Hid (∀ o : Obj, (w.alloc o).rangeAt gV ((L - 1) * 65 + 1) Cs) := Lib.hid fun o => World.rangeAt_alloc (own_range rw_ (fun j v hv => by
      have := cel_range (f := rcell) (fun y hy => rcell_len (HD.out.at_ _ (Dk.wts_mem hy).2).2) hx (j + 1) v (by rw [hCs] at hv; exact hv)
      rw [show (L - 1) * 65 + 1 + j = (L - 1) * 65 + (j + 1) by omega]
      exact this)) o
    have c64 : Hid (Cs.length = 64) := Lib.hid (by rw [hCs, bcells_len]; exact hx64.2)
    have C1 : Hid (Cs.toArray.all (·.oneCell') = true) := Lib.hid (all_oneCell_toArray (hCs ▸ bcells_one x.2))
    have CZ : Hid ((Tryz.prog.info? 125).map (·.size) = some Cs.toArray.size) := Lib.hid (by have e := c64.out; simp only [List.size_toArray, e]; exact Tryz.sizeSector)
    have CZ0 : Hid (Bs.toArray.size = Cs.toArray.size) := Lib.hid (by have e := c64.out; have e2 := s64.out; simp only [List.size_toArray, e, e2])
    have ELK : Hid (Dk.look d k = x.2) := Lib.hid (by rw [SL.out]; exact Dk.lastOf_at (by rw [← hL]; exact hx))
    have X64 := Lib.hid hx64.2
    have HCS := Lib.hid hCs
    have l1 : (1 : Int) ≤ (L : Int) := by omega
    have l2 : (L : Int) ≤ 100000000 := by omega
    have l3 : ((L : Int) - 1).toNat = L - 1 := by omega
    clear hw hL hx hx64 hCs rw_ hgV hAV hwl hcl hk
    go_enter Tryz.func85, Tryz.ntmps85
    go_wp2_with fail
    refine (cdDead_at H.out).mono ?_
    rw [HDD.out]
    rintro e w1 ⟨rfl, rfl⟩
    go_wp2_with fail
    refine (cdHas_c H.out k).mono ?_
    rw [HH.out]
    rintro e w1 ⟨rfl, rfl⟩
    go_wp2_with (first | (refine wpList_load_mid rfl 125 (.tmp 27) rfl gK (k * 64) rfl Bs _ RK.out Tryz.underlying125 rfl SZ.out ?_) | (refine wpList_alloc_zero rfl 125 rfl Tryz.zeroSector ?_) | (refine wpList_store_new rfl 125 (.tmp 6) (.tmp 28) rfl (Array.replicate 64 (.int .u8 0)) Bs.toArray rfl rfl SZ.out SZ0.out B1.out ?_) | (refine wpList_load_mid rfl 125 (.tmp 44) rfl gV ((L - 1) * 65 + 1) rfl Cs _ (RV.out _) Tryz.underlying125 rfl CZ.out ?_) | (refine wpList_store_new rfl 125 (.tmp 6) (.tmp 45) rfl Bs.toArray Cs.toArray rfl rfl CZ.out CZ0.out C1.out ?_))
    go_ret2
    rw [ELK.out]
    exact ⟨_, 64, 64, rfl, X64.out.symm, Nat.le_refl _, own_blockB (Nat.le_refl _) (by rw [← HCS.out]; exact heap_alloc_new w _) (by rw [bcells_len, X64.out]) (by unfold maxLen; omega), (Below.refl _ _).alloc (Nat.le_refl _) _⟩

set_option maxHeartbeats 2000000 in
theorem cdRead_c {w : World} {G : Nat → Prop} {q : Nat} {d : Dk.D} (h : CD w G q d) (hd : d.ok) (hcl : d.cache.length ≤ 100000000) (i : Int) :
    Calls Tryz.prog 85 #[.pointer (some ⟨q, 0, none⟩), .int .i64 i] w (CErrOk w.heap.size (Dk.read d i).2 (Dk.read d i).1 w) := by
  have H := Lib.hid h
  cases hdd : d.dead
  · have HDD := Lib.hid hdd
    cases hh : Dk.has d i
    · have he : Dk.read d i = ([], 1) := by unfold Dk.read; rw [if_neg (by rw [hdd]; simp), if_pos hh]
      rw [he]
      have HH := Lib.hid hh
      clear he hh hdd hd hcl h
      go_enter Tryz.func85, Tryz.ntmps85
      go_wp2_with fail
      refine (cdDead_at H.out).mono ?_
      rw [HDD.out]
      rintro e w1 ⟨rfl, rfl⟩
      go_wp2_with fail
      refine (cdHas_c H.out i).mono ?_
      rw [HH.out]
      rintro e w1 ⟨rfl, rfl⟩
      go_wp2
      go_ret2
      exact CErrOk.bad (Below.refl _ _)
    · obtain ⟨h0, h1⟩ := Dk.has_iff.1 hh
      obtain ⟨k, rfl⟩ := Int.eq_ofNat_of_zero_le h0
      have hk : k < d.s.length := by omega
      cases hb : d.bad.getD k false
      · have he : Dk.read d (k : Int) = (Dk.look d k, 0) := by unfold Dk.read; rw [if_neg (by rw [hdd]; simp), if_neg (by rw [hh]; simp), if_neg (by rw [Int.toNat_natCast, hb]; simp), Int.toNat_natCast]
        rw [he]
        exact cdRead_ok h hd k hk hh hdd hb hcl
      · have he : Dk.read d (k : Int) = ([], 52) := by unfold Dk.read; rw [if_neg (by rw [hdd]; simp), if_neg (by rw [hh]; simp), if_pos (by rw [Int.toNat_natCast, hb])]
        rw [he]
        have HH := Lib.hid hh
        have hkb : k < d.bad.length := by rw [hd.bads]; exact hk
        have kb : (k : Int) < (d.bad.length : Int) := by omega
        obtain ⟨AK, cK, m, AF, cF, lf, D, n, V, r, e⟩ := h
        have c3 := r.fields.2.2.2.1
        obtain ⟨gF, rfl, _, _, hcF, _⟩ := own_at r.f (by omega)
        have cf := hcF k (.bool true) (by
          rw [List.getElem?_map, List.getElem?_eq_getElem hkb]
          rw [List.getD_eq_getElem?_getD, List.getElem?_eq_getElem hkb] at hb
          simp only [Option.getD_some] at hb
          rw [hb]; rfl)
        clear he hh hdd hd hcl r e hcF hb h1 hk
        go_enter Tryz.func85, Tryz.ntmps85
        go_wp2_with fail
        refine (cdDead_at H.out).mono ?_
        rw [HDD.out]
        rintro e w1 ⟨rfl, rfl⟩
        go_wp2_with fail
        refine (cdHas_c H.out k).mono ?_
        rw [HH.out]
        rintro e w1 ⟨rfl, rfl⟩
        go_wp2
        go_ret2
        exact CErrOk.bad (Below.refl _ _)
  · have he : Dk.read d i = ([], 50) := by unfold Dk.read; rw [if_pos hdd]
    rw [he]
    have HDD := Lib.hid hdd
    clear he hdd hd hcl h
    go_enter Tryz.func85, Tryz.ntmps85
    go_wp2_with fail
    refine (cdDead_at H.out).mono ?_
    rw [HDD.out]
    rintro e w1 ⟨rfl, rfl⟩
    go_wp2
    go_ret2
    exact CErrOk.bad (Below.refl _ _)

theorem Tryz.infoCWrite : (Tryz.prog.info? 127).map (fun i => (i.zero, i.size, i.bytes)) = some (some (.agg (Value.int .i64 0 :: List.replicate 64 (.int .u8 0)).toArray), 65, 72) := by kernel_rfl
theorem Tryz.zeroCWrite : (Tryz.prog.info? 127).map (fun i => (i.zero, i.size)) = some (some (.agg (Value.int .i64 0 :: List.replicate 64 (.int .u8 0)).toArray), 65) := by kernel_rfl
theorem Tryz.sizeCWrite : (Tryz.prog.info? 127).map (·.size) = some 65 := by kernel_rfl
theorem Tryz.sizeU8 : (Tryz.prog.info? 5).map (·.size) = some 1 := by kernel_rfl

theorem built_write (x : Int) : Tryz.prog.built 127 [(0, .int .i64 x)] = some (Value.int .i64 x :: List.replicate 64 (.int .u8 0)).toArray := by kernel_rfl


theorem one_zeros (x : Int) : (Value.int .i64 x :: List.replicate 64 (Value.int .u8 0)).toArray.all (·.oneCell') = true := by
  refine all_oneCell_toArray fun v hv => ?_
  rcases List.mem_cons.1 hv with rfl | hv
  · rfl
  · rw [List.eq_of_mem_replicate hv]; rfl

/-- One write more: its row in the map has grown, the map has the new row, the rest is as it was. -/
theorem CD6.put {w w' : World} {G G' : Nat → Prop} {q : Nat} {AK : Option Addr} {cK m : Nat} {AF : Option Addr} {cF : Nat} {lf : Int} {s : List (List UInt8)} {c : List (Nat × List UInt8)} {bad : List Bool} {dead : Bool} {D : DataW Value} {n : Nat} {V : Nat → Option Addr × Nat} {i L : Nat} {b : List UInt8} {A4 : Option Addr} {k4 : Nat}
    (h : CD6 w G q AK cK m AF cF lf s c bad dead D n V) (hi : i < s.length) (hL : L = (Dk.wts c i).length)
    (hq : w'.heap[q]? = some (.cells #[.slice AK s.length cK, .map (some m), .int .i64 ((c.length : Int) + 1), .slice AF bad.length cF, .int .i64 lf, .bool dead] 81 (0, 0)))
    (hrow : w'.ownsRow 0 127 65 (.slice A4 (L + 1) k4) (L + 1) (rcells (Dk.wts c i) ++ rcell (c.length, b)))
    (hA4 : ∀ a, A4 = some a → (∃ a0, (V i).1 = some a0 ∧ a.block = a0.block) ∨ w.heap.size ≤ a.block)
    (hmap : w'.ownsMap Tryz.prog 3 asIs m (n + 1) (D.put (key (i : Int)) (.held (.slice A4 (L + 1) k4))))
    (hk : ∀ k, k < w.heap.size → k ≠ q → k ≠ m → (∀ a0, (V i).1 = some a0 → k ≠ a0.block) → w'.heap[k]? = w.heap[k]?)
    (hG : ∀ k, G k → G' k) (hG' : ∀ k, w.heap.size ≤ k → G' k) :
    CD6 w' G' q AK cK m AF cF lf s (c ++ [(i, b)]) bad dead (D.put (key (i : Int)) (.held (.slice A4 (L + 1) k4))) (n + 1) (fun j => if j = i then (A4, k4) else V j) := by
  have hM : Maps.IsMap D := h.map.isMap
  have vt : ∀ a0, (V i).1 = some a0 → ∃ cs fr, w.heap[a0.block]? = some (.cells cs 127 fr) := fun a0 e => by
    obtain ⟨_, r⟩ := own_row (h.row i hi) a0.block (by rw [e]; rfl)
    exact r
  have off : ∀ {e : TypeId} {size nn : Nat} {v : Value} {xs : List Value}, w.ownsRow 0 e size v nn xs → e ≠ 81 → (e = 127 → ∀ g, v.ownBlock = some g → ∀ a0, (V i).1 = some a0 → g ≠ a0.block) → w'.ownsRow 0 e size v nn xs := fun ho ht hne => by
    refine own_keep ho fun g hg => ?_
    obtain ⟨_, cs, fr, r⟩ := own_row ho g hg
    refine hk g (lt_of_block r) (blk_ne r h.cell ht) (fun e => map_ne h.map r e.symm) (fun a0 e0 => ?_)
    obtain ⟨cs0, fr0, r0⟩ := vt a0 e0
    intro e
    rw [e, r0] at r
    injection r with r
    injection r with _ r
    exact hne r.symm g hg a0 e0 e
  refine ⟨hG q h.fp, ?_, off h.k (by decide) (fun e => absurd e (by decide)), h.kF.mono hG, hG m h.mF, hmap, ?_, fun j hj => ?_, fun j hj => ?_, fun kl hkl => ?_, fun j hj => ?_, fun j hj => ?_, fun j j' hj hj' hne a a' ea ea' => ?_, off h.f (by decide) (fun e => absurd e (by decide)), h.fF.mono hG⟩
  · rw [hq, List.length_append]; simp
  · rw [List.length_append]; have := h.few; simp; omega
  · by_cases e : j = i
    · subst e
      simp only [if_pos]
      rw [at_put_same hM, Dk.wts_same, List.length_append, hL]
      rfl
    · simp only [if_neg e]
      rw [at_put_other (fun q => e (by exact_mod_cast q)), h.look j hj, Dk.wts_other c b e]
  · by_cases e : j = i
    · subst e
      rw [has_put_key hM, Dk.wts_same]
      simp
    · rw [Maps.has_put_other (fun q => e (by have := key_inj.1 q; exact_mod_cast this)), h.has j hj, Dk.wts_other c b e]
  · by_cases e : kl = key (i : Int)
    · exact ⟨i, hi, e⟩
    · rw [Maps.has_put_other e] at hkl
      exact h.keys kl hkl
  · by_cases e : j = i
    · subst e
      simp only [if_pos]
      rw [Dk.wts_same, rcells_snoc, List.length_append, ← hL]
      exact hrow
    · simp only [if_neg e]
      rw [Dk.wts_other c b e]
      refine off (h.row j hj) (by decide) fun _ g hg a0 e0 => ?_
      cases ha : (V j).1 with
      | none => rw [ha] at hg; cases hg
      | some a =>
        rw [ha] at hg
        injection hg with hg
        rw [← hg]
        exact h.apart j i hj hi e a a0 ha e0
  · by_cases e : j = i
    · subst e
      simp only [if_pos]
      intro a ea
      rcases hA4 a ea with ⟨a0, e0, eb⟩ | g
      · rw [eb]
        exact hG _ (h.rowF j hj a0 e0)
      · exact hG' _ g
    · simp only [if_neg e]
      exact (h.rowF j hj).mono hG
  · have lt : ∀ j, j < s.length → ∀ a, (V j).1 = some a → a.block < w.heap.size := fun j hj a ea => own_lt (h.row j hj) a ea
    by_cases e : j = i
    · subst e
      simp only [if_pos] at ea
      simp only [if_neg (Ne.symm hne)] at ea'
      rcases hA4 a ea with ⟨a0, e0, eb⟩ | g
      · rw [eb]
        exact h.apart j j' hj hj' hne a0 a' e0 ea'
      · have := lt j' hj' a' ea'
        omega
    · simp only [if_neg e] at ea
      by_cases e' : j' = i
      · subst e'
        simp only [if_pos] at ea'
        rcases hA4 a' ea' with ⟨a0, e0, eb⟩ | g
        · rw [eb]
          exact h.apart j j' hj hj' hne a a0 ea e0
        · have := lt j hj a ea
          omega
      · simp only [if_neg e'] at ea'
        exact h.apart j j' hj hj' hne a a' ea ea'

set_option maxHeartbeats 4000000 in
set_option maxRecDepth 100000 in
theorem cdWrite_ok {w : World} {G : Nat → Prop} {q : Nat} {d : Dk.D} {A : Option Addr} {n c : Nat} {b : List UInt8} {B : Nat} {t : TypeId} (h : CD w G q d) (hl : d.left ≤ 9223372036854775807) (hcl : d.cache.length ≤ 100000000) (hf : d.s.length ≤ 4096)
    (hL : Lies w B t A (bcells b)) (hBG : bcells b ≠ [] → InF (fun k => ¬ G k ∧ k < w.heap.size) A) (hn : n = b.length) (i : Nat) (hi : Dk.has d (i : Int) = true) (hdd : d.dead = false) (hb : n ≤ 64) (ha : (Dk.act d).1 = 0) :
    Calls Tryz.prog 95 #[.pointer (some ⟨q, 0, none⟩), .int .i64 (i : Int), .slice A n c] w (CdOk G q 0 (Dk.put (Dk.act d).2 (i : Int) b) w) := by
  have H := Lib.hid h
  have HDD := Lib.hid hdd
  have HL := Lib.hid hl
  have HI := Lib.hid hi
  have HA := Lib.hid ha
  have LB := Lib.hid hL
  have IB := Lib.hid hBG
  have HN := Lib.hid hn
  have hi1 : i < d.s.length := by have := (Dk.has_iff.1 hi).2; omega
  have hb2 : (n : Int) ≤ 64 := by omega
  clear h hl hi ha hL hBG hn hdd
  go_enter Tryz.func95, Tryz.ntmps95
  go_wp2_with fail
  refine (cdDead_at H.out).mono ?_
  rw [HDD.out]
  rintro e w0 ⟨rfl, rfl⟩
  go_wp2_with fail
  refine (cdHas_c H.out i).mono ?_
  rw [HI.out]
  rintro e w0 ⟨rfl, rfl⟩
  go_wp2_with fail
  refine (cdSpend_c H.out HDD.out HL.out).mono ?_
  rw [HA.out]
  rintro e w1 ⟨rfl, hr1, hb1⟩
  have es := Dk.act_s d
  have ec := Dk.act_cache d
  obtain ⟨d1, hd1⟩ : ∃ d1, d1 = (Dk.act d).2 := ⟨_, rfl⟩
  rw [← hd1] at hr1 es ec ⊢
  have HD1 := Lib.hid hd1
  obtain ⟨AK, cK, m, AF, cF, lf, D, nn, V, r, e⟩ := hr1
  have R := Lib.hid r
  have E := Lib.hid e
  have HB1 := Lib.hid hb1
  have LB1 := Lib.hid (LB.out.but IB.out hb1)
  obtain ⟨_, c1, c2, _, _, _, _⟩ := r.fields
  have hi2 : i < d1.s.length := by rw [es]; exact hi1
  have hi4 : i ≤ 4096 := by omega
  have cl : d1.cache.length ≤ 100000000 := by rw [ec]; exact hcl
  have nl : nn ≤ 100000000 := Nat.le_trans r.few cl
  have hz1 := hb1.size
  have qlt := lt_of_block r.cell
  have mlt := r.map.lt
  obtain ⟨L, hLL⟩ : ∃ L, L = (Dk.wts d1.cache i).length := ⟨_, rfl⟩
  have hL2 : L ≤ 100000000 := by have := Dk.wts_len d1.cache i; omega
  obtain ⟨N, hN⟩ : ∃ N, N = d1.cache.length := ⟨_, rfl⟩
  rw [← hN] at c2
  have hN2 : N ≤ 100000000 := by omega
  have HLL := Lib.hid hLL
  have HNN := Lib.hid hN
  obtain ⟨Ls, hLs⟩ : ∃ Ls, Ls = Value.int .i64 (N : Int) :: List.replicate 64 (.int .u8 0) := ⟨_, rfl⟩
  have BU : Hid (Tryz.prog.built 127 [(0, .int .i64 (N : Int))] = some Ls.toArray) := Lib.hid (hLs ▸ built_write N)
  have LSZ : Hid ((Tryz.prog.info? 127).map (·.size) = some Ls.toArray.size) := Lib.hid (by rw [hLs]; exact Tryz.sizeCWrite)
  have LS0 : Hid ((Value.int .i64 0 :: List.replicate 64 (Value.int .u8 0)).toArray.size = Ls.toArray.size) := Lib.hid (by rw [hLs]; rfl)
  have LS1 : Hid (Ls.toArray.all (·.oneCell') = true) := Lib.hid (hLs ▸ one_zeros _)
  have LSL : Hid (1 + (bcells b).length ≤ Ls.length) := Lib.hid (by rw [hLs, bcells_len, ← HN.out]; show 1 + n ≤ 65; omega)
  have HLS := Lib.hid hLs
  have HMIN : Hid ((bcells b).length = Nat.min n 64) := Lib.hid (by rw [bcells_len, ← HN.out]; exact (Nat.min_eq_left hb).symm)
  have HB0 := Lib.hid (show Below w1.heap.size w1 (w1.alloc (.cells Ls.toArray 127)) from (Below.refl _ _).alloc (Nat.le_refl _) _)
  have HPOS : Hid (0 < (bcells b).length → ∃ ad, A = some ad ∧ ∀ j v, (bcells b)[j]? = some v → (w1.alloc (.cells Ls.toArray 127)).cell? (ad.add j) = some v) := Lib.hid fun hp => by
    obtain ⟨ad, e, _, hc⟩ := (LB1.out.old (t' := t)).alloc (Nat.le_refl _) (.cells Ls.toArray 127) (fun q => by rw [q] at hp; cases hp)
    exact ⟨ad, e, hc⟩
  clear r e hb1 hcl hLL hN hLs es ec hd1 hf
  go_wp2_with (first | (refine wpList_build_one rfl 127 0 (.tmp 26) rfl _ rfl Ls.toArray BU.out ?_) | (refine wpList_alloc_zero rfl 127 rfl Tryz.zeroCWrite ?_) | (refine wpList_store_new rfl 127 (.tmp 8) (.tmp 27) rfl _ Ls.toArray rfl rfl LSZ.out LS0.out LS1.out ?_) | (refine wpList_copy_splice rfl (.tmp 29) (.tmp 30) 23 23 rfl 5 Tryz.underlying23 Tryz.sizeU8 (some ⟨w1.heap.size, 1, none⟩) A 64 64 n c rfl rfl w1.heap.size 1 Ls 127 (heap_alloc_new w1 _) (bcells b) HMIN.out (fun q => ⟨rfl, HPOS.out q⟩) LSL.out (bcells_one b) w1.heap.size w1 HB0.out (Nat.le_refl _) ?_; intro w3 hg3 hb3))
  have XE : Hid (splice Ls 1 (bcells b) = rcell (N, Dk.sec b)) := Lib.hid (by rw [HLS.out, splice_bytes]; rfl)
  have g3 := hg3.out
  rw [XE.out] at g3
  obtain ⟨X, hX⟩ : ∃ X, X = rcell (N, Dk.sec b) := ⟨_, rfl⟩
  rw [← hX] at g3
  have s64 : (Dk.sec b).length = 64 := Dk.sec_len (by rw [← HN.out]; exact hb)
  have X65 : X.length = 65 := by rw [hX]; exact rcell_len s64
  have X1 : ∀ u ∈ X, u.oneCell' = true := by rw [hX]; exact rcell_one _
  have HX := Lib.hid hX
  have q3 := (hb3.block q qlt).trans R.out.cell
  have m3 := map_keep R.out.map (hb3.block m mlt)
  have z3 : w1.heap.size < w3.heap.size := lt_of_block g3
  have FROM : Hid (∀ u : World, (u.heap[q]? = w3.heap[q]? ∧ u.heap[m]? = w3.heap[m]? ∧ u.heap[w1.heap.size]? = w3.heap[w1.heap.size]?) → u.cell? ⟨q, 1, none⟩ = some (.map (some m)) ∧ (Instr.lookup 79 (.map (some m)) (.int .i64 (i : Int)) false).run Tryz.prog u = .ok (.slice (V i).1 L (V i).2) u ∧ u.rangeAt w1.heap.size 0 X) := Lib.hid fun u ⟨e1, e2, e3⟩ => by
    refine ⟨by simp [World.cell?, e1, q3], ?_, fun j v hv => ?_⟩
    · rw [HLL.out]
      exact map_look (map_keep m3 e2) Tryz.underlying3 Tryz.underlying79 (Tryz.zeroWrites _) (key_wf hi4) (R.out.look i hi2)
    · rw [Nat.zero_add, cell_of_row u w1.heap.size j X.toArray 127 (0, 0) (e3.trans g3)]
      simpa using hv
  have S0 : w3.drew.heap[q]? = w3.heap[q]? ∧ w3.drew.heap[m]? = w3.heap[m]? ∧ w3.drew.heap[w1.heap.size]? = w3.heap[w1.heap.size]? := ⟨rfl, rfl, rfl⟩
  obtain ⟨tw, hw, iw0, iw1, iw2⟩ := info_parts Tryz.infoCWrite
  have RW := R.out.row i hi2
  rw [← HLL.out] at RW
  have RB : ∀ a0, (V i).1 = some a0 → a0.block < w1.heap.size ∧ a0.block ≠ q ∧ a0.block ≠ m := fun a0 e0 => by
    obtain ⟨_, cs, fr, r⟩ := own_row RW a0.block (by rw [e0]; rfl)
    exact ⟨lt_of_block r, blk_ne r R.out.cell (by decide), fun e => map_ne R.out.map r e.symm⟩
  have HR := Lib.hid RW
  have HRB := Lib.hid RB
  have M3 := Lib.hid m3
  have Q3 := Lib.hid q3
  have HB3 := Lib.hid hb3
  have G3 := Lib.hid g3
  clear RW RB m3 q3 hb3 hg3 hX c1 c2 LSL LS0 LSZ LS1 BU HMIN HPOS HB0 HLS
  go_wp2_with fail
  refine Any.begin (S := fun u => u.heap[q]? = w3.heap[q]? ∧ u.heap[m]? = w3.heap[m]? ∧ u.heap[w1.heap.size]? = w3.heap[w1.heap.size]?) (st := 14) (by kernel_rfl) ?_
  refine Any.take (st := 14) (i := 0) (v := ?_) rfl (by kernel_rfl) (by kernel_rfl) (by kernel_rfl) rfl (by kernel_rfl) (fun _ _ _ h => h) (Or.inl ⟨by rfl, ?_⟩) (by assumption) ?_
  rotate_left
  · intro u hu
    have c1 := (FROM.out u hu).1
    have lk := (FROM.out u hu).2.1
    clear hu
    go_simp
    try rfl
  simp only [Act.put, List.setIfInBounds_toArray, List.set_cons_zero, List.set_cons_succ, List.getElem_toArray, List.getElem_cons_zero]
  refine Any.take (st := 14) (i := 1) (v := ?_) rfl (by kernel_rfl) (by kernel_rfl) (by kernel_rfl) rfl (by kernel_rfl) (fun _ _ _ h => h) (Or.inl ⟨by rfl, ?_⟩) (by assumption) ?_
  rotate_left
  · intro u hu
    have c1 := (FROM.out u hu).1
    have lk := (FROM.out u hu).2.1
    clear hu
    go_simp
    try rfl
  simp only [Act.put, List.setIfInBounds_toArray, List.set_cons_zero, List.set_cons_succ, List.getElem_toArray, List.getElem_cons_zero, List.getElem_cons_succ]
  refine Any.take (st := 14) (i := 2) (v := ?_) rfl (by kernel_rfl) (by kernel_rfl) (by kernel_rfl) rfl (by kernel_rfl) (fun _ _ _ h => h) (Or.inl ⟨by rfl, ?_⟩) (by assumption) ?_
  rotate_left
  · intro u hu
    have c1 := (FROM.out u hu).1
    have lk := (FROM.out u hu).2.1
    clear hu
    go_simp
    try rfl
  simp only [Act.put, List.setIfInBounds_toArray, List.set_cons_zero, List.set_cons_succ, List.getElem_toArray, List.getElem_cons_zero, List.getElem_cons_succ]
  refine Any.take (st := 14) (i := 3) (v := ?_) rfl (by kernel_rfl) (by kernel_rfl) (by kernel_rfl) rfl (by kernel_rfl) (fun _ _ _ h => h) (Or.inl ⟨by rfl, ?_⟩) (by assumption) ?_
  rotate_left
  · intro u hu
    have c1 := (FROM.out u hu).1
    have lk := (FROM.out u hu).2.1
    clear hu
    go_simp
    try rfl
  simp only [Act.put, List.setIfInBounds_toArray, List.set_cons_zero, List.set_cons_succ, List.getElem_toArray, List.getElem_cons_zero, List.getElem_cons_succ]
  refine Any.take (st := 14) (i := 4) (v := ?_) rfl (by kernel_rfl) (by kernel_rfl) (by kernel_rfl) rfl (by kernel_rfl) (fun _ _ _ h => h) (Or.inl ⟨by rfl, ?_⟩) (by assumption) ?_
  rotate_left
  · intro u hu
    have c1 := (FROM.out u hu).1
    have lk := (FROM.out u hu).2.1
    clear hu
    go_simp
    try rfl
  simp only [Act.put, List.setIfInBounds_toArray, List.set_cons_zero, List.set_cons_succ, List.getElem_toArray, List.getElem_cons_zero, List.getElem_cons_succ]
  refine Any.take (st := 14) (i := 5) (v := ?_) rfl (by kernel_rfl) (by kernel_rfl) (by kernel_rfl) rfl (by kernel_rfl) (fun _ _ _ h => h) (Or.inl ⟨by rfl, ?_⟩) (by assumption) ?_
  rotate_left
  · intro u hu
    have c1 := (FROM.out u hu).1
    have lk := (FROM.out u hu).2.1
    clear hu
    go_simp
    try rfl
  simp only [Act.put, List.setIfInBounds_toArray, List.set_cons_zero, List.set_cons_succ, List.getElem_toArray, List.getElem_cons_zero, List.getElem_cons_succ]
  refine Any.take (st := 14) (i := 6) (v := ?_) rfl (by kernel_rfl) (by kernel_rfl) (by kernel_rfl) rfl (by kernel_rfl) (fun _ _ _ h => h) (Or.inl ⟨by rfl, ?_⟩) (by assumption) ?_
  rotate_left
  · intro u hu
    have c1 := (FROM.out u hu).1
    have lk := (FROM.out u hu).2.1
    clear hu
    go_simp
    try rfl
  simp only [Act.put, List.setIfInBounds_toArray, List.set_cons_zero, List.set_cons_succ, List.getElem_toArray, List.getElem_cons_zero, List.getElem_cons_succ]
  refine Any.take (st := 14) (i := 7) (v := ?_) rfl (by kernel_rfl) (by kernel_rfl) (by kernel_rfl) rfl (by kernel_rfl) (fun _ _ _ h => h) (Or.inl ⟨by rfl, ?_⟩) (by assumption) ?_
  rotate_left
  · intro u hu
    have c1 := (FROM.out u hu).1
    have lk := (FROM.out u hu).2.1
    clear hu
    go_simp
    try rfl
  simp only [Act.put, List.setIfInBounds_toArray, List.set_cons_zero, List.set_cons_succ, List.getElem_toArray, List.getElem_cons_zero, List.getElem_cons_succ]
  refine Any.take (st := 14) (i := 8) (v := ?_) rfl (by kernel_rfl) (by kernel_rfl) (by kernel_rfl) rfl (by kernel_rfl) (fun _ _ _ h => h) (Or.inl ⟨by rfl, ?_⟩) (by assumption) ?_
  rotate_left
  · intro u hu
    have c1 := (FROM.out u hu).1
    have lk := (FROM.out u hu).2.1
    clear hu
    go_simp
    try rfl
  simp only [Act.put, List.setIfInBounds_toArray, List.set_cons_zero, List.set_cons_succ, List.getElem_toArray, List.getElem_cons_zero, List.getElem_cons_succ]
  refine Any.take (st := 14) (i := 9) (v := ?_) rfl (by kernel_rfl) (by kernel_rfl) (by kernel_rfl) rfl (by kernel_rfl) (fun _ _ _ h => h) (Or.inl ⟨by rfl, ?_⟩) (by assumption) ?_
  rotate_left
  · intro u hu
    have c1 := (FROM.out u hu).1
    have lk := (FROM.out u hu).2.1
    clear hu
    go_simp
    try rfl
  simp only [Act.put, List.setIfInBounds_toArray, List.set_cons_zero, List.set_cons_succ, List.getElem_toArray, List.getElem_cons_zero, List.getElem_cons_succ]
  refine Any.take (st := 14) (i := 10) (v := ?_) rfl (by kernel_rfl) (by kernel_rfl) (by kernel_rfl) rfl (by kernel_rfl) (fun _ _ _ h => h) (Or.inl ⟨by rfl, ?_⟩) (by assumption) ?_
  rotate_left
  · intro u hu
    have c1 := (FROM.out u hu).1
    have lk := (FROM.out u hu).2.1
    clear hu
    go_simp
    try rfl
  simp only [Act.put, List.setIfInBounds_toArray, List.set_cons_zero, List.set_cons_succ, List.getElem_toArray, List.getElem_cons_zero, List.getElem_cons_succ]
  refine Any.take (st := 14) (i := 11) (v := .agg X.toArray) rfl (by kernel_rfl) (by kernel_rfl) (by kernel_rfl) rfl (by kernel_rfl) (fun _ _ _ h => h) (yieldsIf_load_mid (by rfl) 127 (.tmp 8) rfl w1.heap.size 0 rfl X _ (fun u hu => (FROM.out u hu).2.2) Tryz.underlying127 rfl (by rw [X65]; exact Tryz.sizeCWrite)) (by assumption) ?_
  try simp only [Act.put, List.setIfInBounds_toArray, List.set_cons_zero, List.set_cons_succ, List.getElem_toArray, List.getElem_cons_zero, List.getElem_cons_succ]
  refine Any.one (i := 12) (by kernel_rfl) rfl (fun K hK => ?_)
  refine step_buildSlice rfl 123 (.tmp 43) rfl (.agg X.toArray) rfl (run_buildSlice_one _ 123 127 X.toArray tw _ Tryz.underlying123 hw iw0 (by rw [iw1]; exact X65.symm) (by show 0 < X.length; omega) (by show X.length ≤ _; omega)) ?_
  have b4 : Below w3.heap.size w3 (w3.drew.alloc (.cells X.toArray 127)) := (Below.refl _ _).drew.alloc (Nat.le_refl _) _
  have S4 : (w3.drew.alloc (.cells X.toArray 127)).heap[q]? = w3.heap[q]? ∧ (w3.drew.alloc (.cells X.toArray 127)).heap[m]? = w3.heap[m]? ∧ (w3.drew.alloc (.cells X.toArray 127)).heap[w1.heap.size]? = w3.heap[w1.heap.size]? := ⟨b4.block q (by omega), b4.block m (by omega), b4.block _ z3⟩
  refine hK _ _ (fun _ => S4) ?_
  clear hK K
  try simp only [Act.put, List.setIfInBounds_toArray, List.set_cons_zero, List.set_cons_succ, List.getElem_toArray, List.getElem_cons_zero, List.getElem_cons_succ]
  refine Any.one (i := 13) (by kernel_rfl) rfl (fun K hK => ?_)
  have ow4 : (w3.drew.alloc (.cells X.toArray 127)).ownsRow 0 127 65 (.slice (V i).1 L (V i).2) L (rcells (Dk.wts d1.cache i)) := own_below (own_keep HR.out (fun k hk => HB3.out.block k (HR.out.lt k hk).2)) b4
  refine step_own rfl _ _ 123 rfl 0 127 tw _ 65 72 Tryz.underlying123 hw iw0 iw1 iw2 rfl (by decide) _ L _ rfl ow4 0 (some ⟨w3.heap.size, 0, none⟩) 1 1 X 127 rfl (by rw [X65]) (by have := Lies.of_blk (B := 0) (heap_alloc_new w3.drew (.cells X.toArray 127)); rw [List.toList_toArray] at this; exact this) X1 (by unfold maxLen; omega) (by omega) (Nat.zero_le _) ?_
  intro v5 w5 hown5 hgrow5 hblk5
  obtain ⟨A5, k5, rfl⟩ := own_slice hown5
  have keep5 : ∀ k, k < w3.heap.size → (∀ a0, (V i).1 = some a0 → k ≠ a0.block) → w5.heap[k]? = w3.heap[k]? := fun k hk hne => (hgrow5.block k (by simp; omega) (fun e => by
    cases hv : (V i).1 with
    | none => rw [hv] at e; cases e
    | some a0 => rw [hv] at e; injection e with e; exact hne a0 hv e)).trans (b4.block k hk)
  have S5 : w5.heap[q]? = w3.heap[q]? ∧ w5.heap[m]? = w3.heap[m]? ∧ w5.heap[w1.heap.size]? = w3.heap[w1.heap.size]? := ⟨keep5 q (by omega) (fun a0 e0 e => (HRB.out a0 e0).2.1 e.symm), keep5 m (by omega) (fun a0 e0 e => (HRB.out a0 e0).2.2 e.symm), keep5 _ z3 (fun a0 e0 e => by have := (HRB.out a0 e0).1; omega)⟩
  refine hK _ _ (fun _ => S5) ?_
  clear hK K
  try simp only [Act.put, List.setIfInBounds_toArray, List.set_cons_zero, List.set_cons_succ, List.getElem_toArray, List.getElem_cons_zero, List.getElem_cons_succ]
  refine Any.one (i := 14) (by kernel_rfl) rfl (fun K hK => ?_)
  obtain ⟨w6, hrun6, hmap6, hgr6⟩ := map_put (t := 79) (map_keep M3.out S5.2.1) Tryz.underlying3 Tryz.underlying79 (by unfold maxLen; omega) (key_wf hi4) (A5, L + 1, k5)
  refine step_mapUpdate rfl _ _ _ 79 rfl rfl rfl rfl hrun6 ?_
  refine hK _ _ (fun e => absurd rfl e) ?_
  clear hK K
  try simp only [Act.put]
  refine Any.done (by kernel_rfl) ?_
  have keep6 : ∀ k, k < w3.heap.size → k ≠ m → (∀ a0, (V i).1 = some a0 → k ≠ a0.block) → w6.heap[k]? = w3.heap[k]? := fun k hk hm hne => (hgr6.block k (by have := hgrow5.size; simp at this; omega) (fun e => hm (by injection e))).trans (keep5 k hk hne)
  have q6 := (keep6 q (by omega) (Ne.symm (map_ne R.out.map R.out.cell)) (fun a0 e0 e => (HRB.out a0 e0).2.1 e.symm)).trans Q3.out
  have cN : w6.cell? ⟨q, 2, none⟩ = some (.int .i64 (N : Int)) := by rw [HNN.out]; simp [World.cell?, q6]
  have fN := blk_free q6 2
  have z5 := hgrow5.size
  rw [World.size_alloc] at z5
  have z35 : w3.heap.size ≤ w5.heap.size := Nat.le_of_succ_le z5
  have own6 : w6.ownsRow 0 127 65 (.slice A5 (L + 1) k5) (L + 1) (rcells (Dk.wts d1.cache i) ++ X) := own_keep hown5 (fun k hk => hgr6.block k (hown5.lt k hk).2 (fun e => by
    injection e with e
    obtain ⟨_, cs, fr, rr⟩ := own_row hown5 k hk
    exact map_ne (map_keep M3.out S5.2.1) rr e.symm))
  have OW := Lib.hid own6
  have blk : ∀ a, A5 = some a → (∃ a0, (V i).1 = some a0 ∧ a.block = a0.block) ∨ w1.heap.size ≤ a.block := fun a e => by
    subst e
    rcases hblk5 with h5 | h5
    · cases hv : (V i).1 with
      | none => have h5' : some a.block = (Value.slice (V i).1 L (V i).2).ownBlock := h5; rw [hv] at h5'; cases h5'
      | some a0 => have h5' : some a.block = (Value.slice (V i).1 L (V i).2).ownBlock := h5; rw [hv] at h5'; injection h5' with h5'; exact .inl ⟨a0, rfl, h5'⟩
    · have h5' : some a.block = some (w3.drew.alloc (.cells X.toArray 127)).heap.size := h5
      injection h5' with h5'
      rw [h5']
      exact .inr (by simp; omega)
  have BLK := Lib.hid blk
  have K6 := Lib.hid keep6
  have Q6 := Lib.hid q6
  have MP := Lib.hid hmap6
  have e6 : w6.os = w1.os ∧ w6.tape = w1.tape ∧ w6.output = w1.output ∧ w1.heap.size ≤ w6.heap.size := ⟨hgr6.os.trans (hgrow5.os.trans (b4.os.trans HB3.out.os)), hgr6.tape.trans (hgrow5.tape.trans (b4.tape.trans HB3.out.tape)), hgr6.output.trans (hgrow5.output.trans (b4.output.trans HB3.out.output)), by have := hgr6.size; omega⟩
  have E6 := Lib.hid e6
  have n1 : (N : Int) ≤ 100000000 := by omega
  clear hrun6 hmap6 hgr6 hown5 hgrow5 hblk5 keep5 keep6 q6 own6 blk e6 S0 S4 S5 ow4 b4 X1 X65 s64 iw0 iw1 iw2 hw g3
  go_wp2
  go_ret
  rw [← HD1.out]
  show CdOk G q 0 { d1 with cache := d1.cache ++ [(i, Dk.sec b)] } w _ _
  refine ⟨rfl, ⟨AK, cK, m, AF, cF, lf, _, nn + 1, fun j => if j = i then (A5, k5) else V j, (CD6.put R.out hi2 HLL.out ?_ ?_ BLK.out ?_ ?_ (fun k g => g) (fun k g => Or.inr (by omega))), E.out⟩, ?_⟩
  · rw [blk_set Q6.out, ← HNN.out]; rfl
  · rw [← HNN.out, ← HX.out]
    exact own_off OW.out Q6.out (by decide) set_off
  · exact map_keep MP.out (set_off m (map_ne MP.out Q6.out))
  · intro k hk h1 h2 h3
    exact (set_off k h1).trans ((K6.out k (by omega) h2 h3).trans (HB3.out.block k hk))
  · refine (HB1.out.trans ?_ : But G w.heap.size w _)
    refine ⟨E6.out.1, E6.out.2.1, E6.out.2.2.1, by rw [World.size_setCell]; exact E6.out.2.2.2, fun k hk hg => ?_⟩
    have up : ∀ {x : Nat}, Up G w.heap.size x → k ≠ x := fun hx e => by
      subst e
      exact hx.elim hg (fun h => by omega)
    exact (set_off k (up R.out.fp)).trans ((K6.out k (by omega) (up R.out.mF) (fun a0 e0 => up (R.out.rowF i hi2 a0 e0))).trans (HB3.out.block k (by omega)))
end Go.Proofs.YtpnfpeeijghamaaGreat
