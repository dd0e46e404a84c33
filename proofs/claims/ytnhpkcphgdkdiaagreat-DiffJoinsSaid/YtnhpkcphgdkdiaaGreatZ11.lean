import Derived.Test.YtnhpkcphgdkdiaaGreatZ10
import Derived.RangeFuncGives
import Derived.Sort.MapsRangeIn
import Derived.Maps.OwnSet
import Derived.Calls
import Derived.Below
import Derived.ProofKit
namespace Go.Proofs.YtnhpkcphgdkdiaaGreat
set_option linter.unusedSimpArgs false
set_option maxRecDepth 100000
section
section
open Go.RowKit Go.Shelf Go.Maps Go.Lib Go.Sort
def anyV (v : Value) : Option (DataW Value × List MemPlace) := some (.held v, [])
theorem anyV_mk (v : Value) : anyV v = some (.held v, []) := rfl
theorem anyV_inv {v : Value} {y : DataW Value × List MemPlace} (h : anyV v = some y) : y = (.held v, []) := by
 unfold anyV at h
 injection h with h
 exact h.symm
def nkey (k : Nat) : Lit := .int .u64 (k : Int)
theorem nkey_inj {i j : Nat} : nkey i = nkey j ↔ i = j := ⟨fun h => by unfold nkey at h; injection h with _ h; omega, fun h => by rw [h]⟩
theorem nkey_lit (i : Nat) : WideAt.IsKeyLit (nkey i) := by simp [nkey, WideAt.IsKeyLit]
theorem nkey_wf {k : Nat} (h : k < 18446744073709551616) : (nkey k).wf = true := by
 simp [nkey, Lit.wf, IntKind.min, IntKind.max, IntKind.bits, IntKind.signed]
 omega
theorem u64K : Keyed Tryz.prog 30 := int_keyed Tryz.underlying30
theorem nkeyOf {k : Nat} (h : k < 18446744073709551616) : keyOf Tryz.prog 30 (encU k) = some (nkey k) := keyOf_int_mk Tryz.underlying30 (nkey_wf h)
theorem nkey_of {v : Value} {kl : Lit} (h : keyOf Tryz.prog 30 v = some kl) : ∃ k : Nat, v = encU k ∧ kl = nkey k ∧ k < 18446744073709551616 := by
 have hu := Tryz.underlying30
 cases v with
 | int q i =>
  simp [keyOf, hu, mapKey] at h
  obtain ⟨⟨e, hw⟩, rfl⟩ := h
  subst e
  have hb : 0 ≤ i ∧ i < 18446744073709551616 := by
   simp [Lit.wf, IntKind.min, IntKind.max, IntKind.bits, IntKind.signed] at hw
   omega
  refine ⟨i.toNat, ?_, ?_, by omega⟩
  ·unfold encU
   rw [Int.toNat_of_nonneg hb.1]
  ·unfold nkey
   rw [Int.toNat_of_nonneg hb.1]
 | _ => simp [keyOf, hu, mapKey] at h
structure UM (w : World) (mb n : Nat) (f : Nat → Option Value) : Prop where
 out : ∃ D : DataW Value, w.ownsMap Tryz.prog 30 anyV mb n D ∧ (∀ k, Maps.has D (nkey k) = (f k).isSome) ∧ ∀ k v, f k = some v → ∀ z, D.atKey (nkey k) z = .held v
section
variable {w w' : World} {mb n : Nat} {f : Nat → Option Value}
theorem UM.lt (h : UM w mb n f) : mb < w.heap.size := by
 obtain ⟨D, h1, _⟩ := h.out
 exact h1.lt
theorem UM.kept (h : UM w mb n f) {row : Option Nat} (hg : w.grownBy w' row) (hne : some mb ≠ row) : UM w' mb n f := by
 obtain ⟨D, h1, h2⟩ := h.out
 exact ⟨D, h1.kept hg hne, h2⟩
theorem um_keep {D : DataW Value} (h : w.ownsMap Tryz.prog 30 anyV mb n D) (hk : w'.heap[mb]? = w.heap[mb]?) : w'.ownsMap Tryz.prog 30 anyV mb n D := by
 obtain ⟨es, clock, hb, r⟩ := h
 exact ⟨es, clock, hk.trans hb, r⟩
theorem UM.same (h : UM w mb n f) (hk : w'.heap[mb]? = w.heap[mb]?) : UM w' mb n f := by
 obtain ⟨D, h1, h2⟩ := h.out
 exact ⟨D, um_keep h1 hk, h2⟩
theorem UM.below (h : UM w mb n f) {B : Nat} (hb : Below B w w') (hB : mb < B) : UM w' mb n f := h.same (hb.block mb hB)
theorem UM.made (w : World) : UM (w.alloc (.map #[] 0)) w.heap.size 0 (fun _ => none) := ⟨_, World.ownsMap_made w Tryz.prog 30 anyV, fun _ => rfl, fun _ _ e => by cases e⟩
theorem UM.up (h : UM w mb n f) {m : Nat} (hm : n ≤ m) : UM w mb m f := by
 obtain ⟨D, h1, h2⟩ := h.out
 exact ⟨D, h1.mono hm, h2⟩
theorem um_not {D : DataW Value} (hm : Maps.IsMap D) {k : Nat} (h : Maps.has D (nkey k) = false) (z : DataW Value) : D.atKey (nkey k) z = z := by
 obtain ⟨es, rfl⟩ := hm
 have e2 : (es.find? fun p => p.1.sameKey (nkey k)) = none := by
  rw [List.find?_eq_none]
  intro p hp
  exact (List.any_eq_false.1 (show (es.any fun p => p.1.sameKey (nkey k)) = false from h)) p hp
 show DataW.atKey (.map es) (nkey k) z = z
 simp only [DataW.atKey, e2]
theorem UM.at_ {D : DataW Value} (h1 : w.ownsMap Tryz.prog 30 anyV mb n D) (h2 : ∀ k, Maps.has D (nkey k) = (f k).isSome) (h3 : ∀ k v, f k = some v → ∀ z, D.atKey (nkey k) z = .held v) (k : Nat) (z : Value) : D.atKey (nkey k) (.held z) = .held ((f k).getD z) := by
 cases e : f k with
 | some v => exact h3 k v e _
 | none => exact um_not h1.isMap (by rw [h2, e]; rfl) _
theorem UM.look_ok (h : UM w mb n f) {t e : TypeId} (ht : Tryz.prog.underlying t = some (.map 30 e)) {z : Value} (hz : (zeroValue e).run Tryz.prog w = .ok z w) {k : Nat} (hk : k < 18446744073709551616) :
  (Instr.lookup t (.map (some mb)) (encU k) true).run Tryz.prog w = .ok (.tuple #[(f k).getD z, .bool (f k).isSome]) w := by
 obtain ⟨D, h1, h2, h3⟩ := h.out
 obtain ⟨u, ps, hr, hu⟩ := h1.look_ok u64K ht hz (anyV_mk z) (nkeyOf hk)
 have hy := anyV_inv hu
 injection hy with hy _
 rw [UM.at_ h1 h2 h3] at hy
 injection hy with hy
 rw [hr, ← hy, h2]
theorem UM.look (h : UM w mb n f) {t e : TypeId} (ht : Tryz.prog.underlying t = some (.map 30 e)) {z : Value} (hz : (zeroValue e).run Tryz.prog w = .ok z w) {k : Nat} (hk : k < 18446744073709551616) :
  (Instr.lookup t (.map (some mb)) (encU k) false).run Tryz.prog w = .ok ((f k).getD z) w := by
 obtain ⟨D, h1, h2, h3⟩ := h.out
 obtain ⟨u, ps, hr, hu⟩ := h1.lookup u64K ht hz (anyV_mk z) (nkeyOf hk)
 have hy := anyV_inv hu
 injection hy with hy _
 rw [UM.at_ h1 h2 h3] at hy
 injection hy with hy
 rw [hr, ← hy]
theorem UM.put (h : UM w mb n f) {t e : TypeId} (ht : Tryz.prog.underlying t = some (.map 30 e)) (hn : n < maxLen) {k : Nat} (hk : k < 18446744073709551616) (v : Value) :
  ∃ w', (Instr.mapUpdate t (.map (some mb)) (encU k) v).run Tryz.prog w = .ok () w' ∧ UM w' mb (n + 1) (fun j => if j = k then some v else f j) ∧ w.grownBy w' (some mb) := by
 obtain ⟨D, h1, h2, h3⟩ := h.out
 obtain ⟨w', r1, r2, r3⟩ := h1.update u64K ht hn (nkeyOf hk) (anyV_mk v)
 refine ⟨w', r1, ⟨_, r2, fun j => ?_, fun j u hj z => ?_⟩, r3⟩
 ·by_cases e : j = k
  ·subst e
   rw [Maps.has_put_same h1.isMap (nkey_lit j)]
   simp
  ·rw [Maps.has_put_other (fun q => e (nkey_inj.1 q)), h2]
   simp [e]
 ·by_cases e : j = k
  ·subst e
   rw [if_pos rfl] at hj
   injection hj with hj
   rw [← hj]
   exact Maps.atKey_put_same h1.isMap (nkey_lit j) _ _
  ·rw [if_neg e] at hj
   rw [Maps.atKey_put_other (fun q => e (nkey_inj.1 q))]
   exact h3 j u hj z
theorem UM.del (h : UM w mb n f) {t e : TypeId} (ht : Tryz.prog.underlying t = some (.map 30 e)) {k : Nat} (hk : k < 18446744073709551616) (ty : TypeId) :
  ∃ w', (Builtin.delete_ #[t, 30] ty #[.map (some mb), encU k]).run Tryz.prog w = .ok (.tuple #[]) w' ∧ UM w' mb n (fun j => if j = k then none else f j) ∧ w.grownBy w' (some mb) := by
 obtain ⟨D, h1, h2, h3⟩ := h.out
 obtain ⟨w', r1, r2, r3⟩ := h1.drop u64K ht (nkeyOf hk) ty
 refine ⟨w', r1, ⟨_, r2, fun j => ?_, fun j u hj z => ?_⟩, r3.grown⟩
 ·by_cases e : j = k
  ·subst e
   rw [Maps.has_del_same]
   simp
  ·rw [Maps.has_del_other (fun q => e (nkey_inj.1 q)), h2]
   simp [e]
 ·by_cases e : j = k
  ·rw [if_pos e] at hj
   cases hj
  ·rw [if_neg e] at hj
   rw [Maps.atKey_del_other (fun q => e (nkey_inj.1 q))]
   exact h3 j u hj z
end
def AllN (f : Nat → Option Value) (ss : List Nat) : Prop := ss.Nodup ∧ ∀ x, x ∈ ss ↔ (f x).isSome = true
end
end
section
section
theorem ret_u64 {a b : Int} (h : a = b) : Ending.returned (.int .u64 a) = .returned (.int .u64 b) := by rw [h]
theorem ret_i64 {a b : Int} (h : a = b) : Ending.returned (.int .i64 a) = .returned (.int .i64 b) := by rw [h]
theorem ret_f64 {a b : Nat} (h : a = b) : Ending.returned (.float .f64 a) = .returned (.float .f64 b) := by rw [h]
theorem ret_bool {a b : Bool} (h : a = b) : Ending.returned (.bool a) = .returned (.bool b) := by rw [h]
namespace Cd
def byt (n k : Nat) : UInt8 := UInt8.ofNat (n / 256 ^ k % 256)
def fix (n : Nat) : Nat → List UInt8
 | 0 => []
 | k + 1 => byt n k :: fix n k
def wid (n : Nat) : Nat :=
 if n < 256 then 1 else if n < 65536 then 2 else if n < 16777216 then 3 else if n < 4294967296 then 4 else if n < 1099511627776 then 5 else if n < 281474976710656 then 6 else if n < 72057594037927936 then 7 else 8
def ev (l : List UInt8) : Nat := l.foldl (fun n b => n * 256 + b.toNat) 0
def val (l : List UInt8) : Nat := ev l % 18446744073709551616
theorem byt_nat (n k : Nat) : (byt n k).toNat = n / 256 ^ k % 256 := by
 unfold byt
 rw [UInt8.toNat_ofNat']
 exact Nat.mod_eq_of_lt (Nat.mod_lt _ (by omega))
theorem fix_len (n k : Nat) : (fix n k).length = k := by
 induction k with
 | zero => rfl
 | succ k ih => simp [fix, ih]
theorem foldl_ev (l : List UInt8) (v : Nat) : l.foldl (fun n b => n * 256 + b.toNat) v = v * 256 ^ l.length + ev l := by
 induction l generalizing v with
 | nil => simp [ev]
 | cons b l ih =>
  unfold ev
  rw [List.foldl_cons, List.foldl_cons, ih, ih (0 * 256 + b.toNat), List.length_cons, Nat.pow_succ]
  simp only [Nat.zero_mul, Nat.zero_add, Nat.add_mul]
  rw [Nat.mul_assoc, Nat.mul_comm 256 (256 ^ l.length)]
  omega
theorem ev_cons (b : UInt8) (l : List UInt8) : ev (b :: l) = b.toNat * 256 ^ l.length + ev l := by
 rw [show ev (b :: l) = l.foldl (fun n b => n * 256 + b.toNat) (0 * 256 + b.toNat) from rfl, foldl_ev]; simp
theorem ev_lt (l : List UInt8) : ev l < 256 ^ l.length := by
 induction l with
 | nil => simp [ev]
 | cons b l ih =>
  rw [ev_cons, List.length_cons, Nat.pow_succ]
  have h : b.toNat < 256 := b.toNat_lt
  have h2 : b.toNat * 256 ^ l.length ≤ 255 * 256 ^ l.length := Nat.mul_le_mul_right _ (by omega)
  omega
theorem val_small {l : List UInt8} (h : l.length ≤ 8) : val l = ev l := by
 have h1 := ev_lt l
 have h2 : 256 ^ l.length ≤ 256 ^ 8 := Nat.pow_le_pow_right (by omega) h
 have h3 : (256 : Nat) ^ 8 = 18446744073709551616 := by decide
 exact Nat.mod_eq_of_lt (by omega)
theorem ev_fix (n k : Nat) : ev (fix n k) = n % 256 ^ k := by
 induction k with
 | zero => simp [fix, ev, Nat.mod_one]
 | succ k ih =>
  rw [fix, ev_cons, ih, fix_len, byt_nat, Nat.pow_succ, Nat.mod_mul, Nat.mul_comm (n / 256 ^ k % 256), Nat.add_comm]
theorem ev_fix_lt {n k : Nat} (h : n < 256 ^ k) : ev (fix n k) = n := by rw [ev_fix, Nat.mod_eq_of_lt h]
end Cd
end
section
open Go.ChangeShapes Go.WideShapes Go.ChangeAt Go.RowKit
section
variable {H : Type} {enc : TypeId × Value → H} {P : Program}
theorem post_behind {f : Func} {s : ChangeSpec} {apart fresh handsOn again : Bool} {W W' : World} {args : Array Value} {v : Value} {ds gs : List (DataW H)} {before pa pv : List MemPlace}
  (whole : DataW.Whole enc P f.params.toList s.vars apart W args.toList ds gs before) (same : before = pa ++ pv) (old : Below W.heap.size W W')
  (res : ∀ (b : Nat) (sp : Nat → Bool) (hd : Bool), DataW.TrodAll enc P W' b sp hd f.resultTypes.toList (v.resultList f.resultTypes.size) (s.fn H (ds ++ gs)).results [])
  (arg : ∀ sp : Nat → Bool, (∀ p ∈ before, sp p.block = true) → DataW.TrodAll enc P W' 0 sp true f.params.toList args.toList (s.fn H (ds ++ gs)).args pa)
  (var : ∀ sp : Nat → Bool, (∀ p ∈ before, sp p.block = true) → DataW.TrodVars enc P W' sp s.vars (s.fn H (ds ++ gs)).vars pv)
  (outer : ∀ (j : Nat) (t : TypeId) (r : Value), f.resultTypes[j]? = some t → (v.resultList f.resultTypes.size)[j]? = some r → Value.okWide P W' .any 0 t r) :
  s.post enc P f apart fresh handsOn again W args v W' := by
 have lower : ∀ p ∈ before, p.block < W.heap.size := fun p m => whole.lt p m
 have marked : ∀ p ∈ before, (fun b => decide (b < W.heap.size)) p.block = true := fun p m => decide_eq_true (lower p m)
 have every : ∀ p ∈ before, (fun _ : Nat => true) p.block = true := fun _ _ => rfl
 have kept : W.keptBut W' (fun p => p ∈ before ∧ (p ∈ ([] : List MemPlace) ++ pa ∨ p ∈ pv)) := old.frame _
 obtain ⟨_, _, _, _, _, frz, sep⟩ := id whole
 refine ⟨ds, gs, before, [], pa, pv, whole, res _ _ _, arg _ marked, var _ marked, World.keptBut_mono (fun p m => ⟨m.1, ?_⟩) kept, fun _ => ?_⟩
 ·have h := m.1
  rw [same, List.mem_append] at h
  exact Or.inr h
 ·refine ⟨outer, _, _, ([] ++ pa) ++ pv, ⟨[] ++ pa, pv, trodAll_append (arg _ every) (res _ _ _), var _ every, rfl, ?_, ?_⟩, ?_⟩
  ·intro b off m
   have h : MemPlace.cell b off ∈ before := by rw [same]; simpa using m
   rw [old.frozen (lower _ h)]
   exact frz b off h
  ·intro yes
   have h := sep yes
   rw [same] at h
   simpa using h
  ·intro p m _
   rw [same]
   simpa using m
end
end
end
end Go.Proofs.YtnhpkcphgdkdiaaGreat
