/- Contracts of the document's own NewDisk. -/
import Derived.Test.YtbfkjneidabijaaGreatDr
import Derived.IntWalk
namespace Go.Proofs.YtbfkjneidabijaaGreat
open Go.RowKit
set_option maxRecDepth 100000

theorem Tryz.infoTexts : (Tryz.prog.info? 57).map (fun i => (i.zero, i.size, i.bytes)) = some (some (.slice none 0 0), 1, 24) := by kernel_rfl

theorem Tryz.infoBool : (Tryz.prog.info? 4).map (fun i => (i.zero, i.size, i.bytes)) = some (some (.bool false), 1, 1) := by kernel_rfl

theorem five {w : World} {p : Nat} {t : TypeId} {a b c d e : Value} (h : w.heap[p]? = some (.cells #[a, b, c, d, e] t (0, 0))) : w.cell? ⟨p, 0, none⟩ = some a ∧ w.cell? ⟨p, 1, none⟩ = some b ∧ w.cell? ⟨p, 2, none⟩ = some c ∧ w.cell? ⟨p, 3, none⟩ = some d ∧ w.cell? ⟨p, 4, none⟩ = some e ∧ (∀ j, w.frozen? ⟨p, j, none⟩ = false) := by
  refine ⟨?_, ?_, ?_, ?_, ?_, fun j => blk_free h j⟩ <;> simp [World.cell?, h]
theorem own_ne {w : World} {base : Nat} {e t : TypeId} {size n p : Nat} {v : Value} {xs : List Value} {o : Array Value} {fr : Nat × Nat} (h : w.ownsRow base e size v n xs) (hp : w.heap[p]? = some (.cells o t fr)) (ht : e ≠ t) : some p ≠ v.ownBlock := fun q => by
  obtain ⟨_, _, _, r⟩ := own_row h p q.symm
  exact blk_ne r hp ht rfl

section
variable {w X w2 : World} {F : Nat → Prop} {p : Nat} {AS AC AB : Option Addr} {cS cC cB : Nat} {ms : List MTx} {cs : List MWr} {bad : List Bool} {left : Int} {dead : Bool}
/-- One sector more. -/
theorem RS5.growS {m : MTx} {A2 : Option Addr} {k2 : Nat} (h : RS5 w F p AS AC AB cS cC cB ms cs bad left dead) (hX : Below w.heap.size w X) (hm : Held X F m) (hg : X.grownBy w2 (Value.slice AS ms.length cS).ownBlock)
    (ho : w2.ownsRow 0 57 1 (.slice A2 (ms.length + 1) k2) (ms.length + 1) (tcells ms ++ tcells [m])) (hF : InF F A2) : RS5 (w2.setCell ⟨p, 0, none⟩ (.slice A2 (ms.length + 1) k2)) F p A2 AC AB k2 cC cB (ms ++ [m]) cs bad left dead := by
  have hx := h.below hX
  have T := grown_tch (B := 0) (ts := [57]) hx.s hg (Nat.le_refl _) (Nat.zero_le _) (by simp)
  have hp2 := T.blk hx.cell (by decide)
  have e1 : (ms ++ [m]).length = ms.length + 1 := by simp
  have e2 : tcells (ms ++ [m]) = tcells ms ++ tcells [m] := by simp [tcells]
  refine ⟨h.fp, ?_, ?_, hF, ?_, own_off (own_tch hx.c T (by decide)) hp2 (by decide) set_off, h.cF, fun x hxm => ((hx.heldC x hxm).tch T (by decide)).off hp2 (by decide) set_off, own_off (own_tch hx.b T (by decide)) hp2 (by decide) set_off, h.bF⟩
  · rw [blk_set hp2, e1]; rfl
  · rw [e1, e2]
    exact own_off ho hp2 (by decide) set_off
  · intro q hq
    rw [List.mem_append, List.mem_singleton] at hq
    rcases hq with hq | rfl
    · exact ((hx.held q hq).tch T (by decide)).off hp2 (by decide) set_off
    · exact (hm.tch T (by decide)).off hp2 (by decide) set_off
/-- One mark of a fault more. -/
theorem RS5.growB {A2 : Option Addr} {k2 : Nat} {v : Bool} (h : RS5 w F p AS AC AB cS cC cB ms cs bad left dead) (hX : Below w.heap.size w X) (hg : X.grownBy w2 (Value.slice AB bad.length cB).ownBlock)
    (ho : w2.ownsRow 0 4 1 (.slice A2 (bad.length + 1) k2) (bad.length + 1) (bad.map Value.bool ++ [.bool v])) (hF : InF F A2) : RS5 (w2.setCell ⟨p, 2, none⟩ (.slice A2 (bad.length + 1) k2)) F p AS AC A2 cS cC k2 ms cs (bad ++ [v]) left dead := by
  have hx := h.below hX
  have T := grown_tch (B := 0) (ts := [4]) hx.b hg (Nat.le_refl _) (Nat.zero_le _) (by simp)
  have hp2 := T.blk hx.cell (by decide)
  have e1 : (bad ++ [v]).length = bad.length + 1 := by simp
  have e2 : (bad ++ [v]).map Value.bool = bad.map Value.bool ++ [.bool v] := by simp
  refine ⟨h.fp, ?_, own_off (own_tch hx.s T (by decide)) hp2 (by decide) set_off, h.sF, fun m hm => ((hx.held m hm).tch T (by decide)).off hp2 (by decide) set_off, own_off (own_tch hx.c T (by decide)) hp2 (by decide) set_off, h.cF, fun x hxm => ((hx.heldC x hxm).tch T (by decide)).off hp2 (by decide) set_off, ?_, hF⟩
  · rw [blk_set hp2, e1]; rfl
  · rw [e1, e2]
    exact own_off ho hp2 (by decide) set_off
/-- Where the row's block is behind an append. -/
theorem InF.grow {v : Value} {A2 : Option Addr} {n k2 N : Nat} (hv : ∀ k, v.ownBlock = some k → F k) (h : (Value.slice A2 n k2).ownBlock = v.ownBlock ∨ (Value.slice A2 n k2).ownBlock = some N) (hn : F N) : InF F A2 := fun ad e => by
  subst e
  rcases h with h | h
  · exact hv _ h.symm
  · have q : some ad.block = some N := h
    injection q with q
    rw [q]
    exact hn
end

/-- It returned a new disk, and left all older memory alone. -/
def NewOk (d : Dk.D) (w : World) (e : Ending) (w' : World) : Prop := ∃ p, e = .returned (.pointer (some ⟨p, 0, none⟩)) ∧ RD w' (fun k => w.heap.size ≤ k) p d ∧ Below w.heap.size w w'

set_option maxHeartbeats 4000000 in
set_option maxRecDepth 100000 in
theorem refNewDisk_c (n : Int) (w : World) (hn : n ≤ 9223372036854775807) :
    Calls Tryz.prog 7 #[.int .i64 n] w (NewOk (Dk.new n) w) := by
  obtain ⟨ti, hi, iz0, iz1, iz2⟩ := info_parts Tryz.infoTexts
  obtain ⟨tb, hb, ib0, ib1, ib2⟩ := info_parts Tryz.infoBool
  have hmk : ∀ w : World, (Instr.makeSlice 57 (.int .i64 64) (.int .i64 64)).run Tryz.prog w = .ok (.slice (some ⟨w.heap.size, 0, none⟩) 64 64) (w.alloc (.cells (bcells Dk.zero64).toArray 5)) := mk_bytes 64 (by omega)
  have CN : Hid (Dk.count n = min n.toNat 4096) := rfl
  have HNN := Lib.hid hn
  clear hn
  go_enter Tryz.func7, Tryz.ntmps7
  go_wp2_with fail
  go_loopw [4] (fun i wr => ∃ (j : Nat) (AS AB : Option Addr) (cS cB : Nat) (mj : List MTx), j ≤ Dk.count n ∧ i = .int .i64 j ∧ mj.length = j ∧ RS5 wr (fun k => w.heap.size ≤ k) w.heap.size AS none AB cS 0 cB mj [] (List.replicate j false) (-1) false ∧ txs mj = List.replicate j Dk.zero64 ∧ Below w.heap.size w wr) (fun i _ => Dk.count n - (intOf i).toNat)
  case atStart =>
    exact ⟨0, none, none, 0, 0, [], Nat.zero_le _, rfl, rfl, ⟨Nat.le_refl _, heap_alloc_new w _, World.ownsRow_nil _ _ _ _, InF.none, by simp, World.ownsRow_nil _ _ _ _, InF.none, by simp, World.ownsRow_nil _ _ _ _, InF.none⟩, rfl, (Below.refl _ _).alloc (Nat.le_refl _) _⟩
  case round =>
    obtain ⟨j, AS, AB, cS, cB, mj, hj, rfl, hml, hr, htx, hbw⟩ := hrel
    have RJ := Lib.hid hr
    have HT := Lib.hid htx
    have HB := Lib.hid hbw
    have HML := Lib.hid hml
    have hz := hbw.size
    have fd := hr.fields
    have f0 := fd.1
    have f2 := fd.2.2.1
    have z0 := fd.2.2.2.2.2 0
    have z2 := fd.2.2.2.2.2 2
    have plt : w.heap.size < wr.heap.size := lt_of_block hr.cell
    clear hr htx hbw hml fd
    by_cases hlt : j < Dk.count n
    · have j1 : (j : Int) < n := by have := CN.out; omega
      have j2 : (j : Int) < 4096 := by have := CN.out; omega
      have j3 : j < 4096 := by omega
      have ml : mj.length ≤ 4096 := by have := HML.out; omega
      have HOW := Lib.hid (fun (o1 o2 : Obj) => own_below RJ.out.s (((Below.refl wr.heap.size wr).alloc (Nat.le_refl _) o1).alloc (by simp) o2))
      have BEL := Lib.hid (fun (o1 o2 : Obj) => ((Below.refl wr.heap.size wr).alloc (Nat.le_refl _) o1).alloc (by simp) o2)
      have p0 : ∀ o, (wr.alloc o).cell? ⟨w.heap.size, 0, none⟩ = some (.slice AS mj.length cS) := fun o => ((Below.refl wr.heap.size wr).alloc (Nat.le_refl _) o |>.cell (p := ⟨w.heap.size, 0, none⟩) plt).trans f0
      have p1 : ∀ o1 o2, ((wr.alloc o1).alloc o2).cell? ⟨w.heap.size, 0, none⟩ = some (.slice AS mj.length cS) := fun o1 o2 => ((BEL.out o1 o2).cell (p := ⟨w.heap.size, 0, none⟩) plt).trans f0
      have SRC : Hid (∀ o, Lies ((wr.alloc o).alloc (.cells #[.slice (some ⟨wr.heap.size, 0, none⟩) 64 64] 57)) 0 57 (some ⟨wr.heap.size + 1, 0, none⟩) (tcells [⟨Dk.zero64, some ⟨wr.heap.size, 0, none⟩, 64⟩])) := Lib.hid fun o => by
        have q := lies_text (w := wr.alloc o) (m := ⟨Dk.zero64, some ⟨wr.heap.size, 0, none⟩, 64⟩)
        rw [show MTx.cell ⟨Dk.zero64, some ⟨wr.heap.size, 0, none⟩, 64⟩ = Value.slice (some ⟨wr.heap.size, 0, none⟩) 64 64 from rfl] at q
        simpa using q
      have NE := Lib.hid (own_ne RJ.out.s RJ.out.cell (by decide))
      go_wp2_with fail
      go_region_law ((refine step_own rfl _ _ 32 rfl 0 57 ti (.slice none 0 0) 1 24 Tryz.underlying32 hi iz0 iz1 iz2 rfl (by decide) _ mj.length (tcells mj) rfl (by exact HOW.out _ _) 0 _ 1 1 (tcells [⟨Dk.zero64, some ⟨wr.heap.size, 0, none⟩, 64⟩]) 57 rfl rfl (by exact SRC.out _) (tcells_one _) (by unfold maxLen; omega) (by omega) (Nat.zero_le _) ?_; intro v' w2 hown hgrow hblk; obtain ⟨A2, k2, rfl⟩ := own_slice hown; have hp2 := (hgrow.block _ (by simp; omega) NE.out).trans ((BEL.out _ _).block _ plt); have pc := (five (hp2.trans RJ.out.cell)).1; have pf := (five (hp2.trans RJ.out.cell)).2.2.2.2.2 0))
      all_goals
        have HM0 : Held ((wr.alloc (.cells (bcells Dk.zero64).toArray 5)).alloc (.cells #[.slice (some ⟨wr.heap.size, 0, none⟩) 64 64] 57)).drew (fun k => w.heap.size ≤ k) ⟨Dk.zero64, some ⟨wr.heap.size, 0, none⟩, 64⟩ := by
          refine ⟨⟨?_, Nat.le_refl _⟩, fun ad e => by injection e with e; subst e; exact hz, rfl⟩
          have q := Lies.of_blk (B := 0) (heap_alloc_new wr (.cells (bcells Dk.zero64).toArray 5))
          rw [List.toList_toArray] at q
          exact (q.alloc (Nat.zero_le _) _).drew
        have hF2 : InF (fun k => w.heap.size ≤ k) A2 := InF.grow (RJ.out.sF.row) hblk (by simp; omega)
        have R3 := RJ.out.growS (BEL.out _ _).drew HM0 hgrow hown hF2
        have hb3 : Below w.heap.size w (w2.setCell ⟨w.heap.size, 0, none⟩ (.slice A2 (mj.length + 1) k2)) := (((HB.out.alloc hz _).alloc (by simp; omega) _).drew.grown hgrow (by simp; omega) RJ.out.sF.row).setCell (Nat.le_refl _) _
        clear hown hgrow hblk hp2 pc pf HM0 p0 p1 f0 f2 z0 z2
        generalize w2.setCell ⟨w.heap.size, 0, none⟩ (.slice A2 (mj.length + 1) k2) = w3 at *
        have R4 := Lib.hid R3
        have HB3 := Lib.hid hb3
        have fd := R3.fields
        have f2 := fd.2.2.1
        have z2 := fd.2.2.2.2.2 2
        have hz3 := hb3.size
        clear R3 hb3 fd
        clear hmk BEL HOW SRC NE
        go_wp2_with (at_builtin; refine wpList_app _ rfl _ _ 38 rfl 0 4 tb (.bool false) 1 1 Tryz.underlying38 hb ib0 ib1 ib2 rfl (by decide) _ j _ rfl (by have q := R4.out.b; rw [List.length_replicate] at q; exact own_below q ((Below.refl _ _).alloc (Nat.le_refl _) _)) 0 _ 1 1 [.bool false] 4 rfl rfl (by exact Lies.of_blk (heap_alloc_new w3 _)) (fun u hu => by rw [List.mem_singleton] at hu; subst hu; rfl) (by unfold maxLen; omega) (by omega) (Nat.zero_le _) ?_)
        intro v' w4 hown hgrow hblk
        obtain ⟨A4, k4, rfl⟩ := own_slice hown
        have hl := HML.out
        have hrep : (List.replicate j false).length = j := List.length_replicate
        have hF4 : InF (fun k => w.heap.size ≤ k) A4 := InF.grow (v := .slice AB j cB) (by have := R4.out.bF.row (n := j) (c := cB); exact this) hblk (by omega)
        have R5 : RS5 (w4.setCell ⟨w.heap.size, 2, none⟩ (.slice A4 (j + 1) k4)) (fun k => w.heap.size ≤ k) w.heap.size A2 none A4 k2 0 k4 (mj ++ [⟨Dk.zero64, some ⟨wr.heap.size, 0, none⟩, 64⟩]) [] (List.replicate j false ++ [false]) (-1) false := by
          have q := R4.out.growB (w2 := w4) (A2 := A4) (k2 := k4) (v := false) ((Below.refl w3.heap.size w3).alloc (Nat.le_refl _) (.cells #[.bool false] 4)) (by rw [hrep]; exact hgrow) (by rw [hrep, List.map_replicate]; exact hown) hF4
          rw [hrep] at q
          exact q
        have T4 := grown_tch (B := 0) (ts := [4]) (own_below (by have q := R4.out.b; rw [List.length_replicate] at q; exact q) ((Below.refl _ _).alloc (Nat.le_refl _) (.cells #[.bool false] 4))) hgrow (Nat.le_refl _) (Nat.zero_le _) (by simp)
        have hp4 := five (T4.blk (blk_alloc R4.out.cell (.cells #[.bool false] 4)) (by decide))
        have pc := hp4.2.2.1
        have pf := hp4.2.2.2.2.2 2
        have HB4 := Lib.hid (((HB3.out.alloc hz3 _).grown hgrow (by simp; omega) (by have := R4.out.bF.row (n := j) (c := cB); exact this)).setCell (p := ⟨w.heap.size, 2, none⟩) (Nat.le_refl _) (.slice A4 (j + 1) k4))
        have HR5 := Lib.hid R5
        clear R5 hp4 T4 hown hgrow hblk hl hrep hF4
        go_wp2
        go_roundw
        case rel =>
          refine ⟨j + 1, A2, A4, k2, k4, mj ++ [⟨Dk.zero64, some ⟨wr.heap.size, 0, none⟩, 64⟩], by omega, by go_num, by simp [HML.out], ?_, ?_, ?_⟩
          · rw [List.replicate_succ']
            exact HR5.out.keep (fun _ _ => rfl)
          · rw [txs_snoc, HT.out, List.replicate_succ']
          · exact HB4.out
        case measure => simp [intOf]; omega
    · obtain rfl : j = Dk.count n := by omega
      have j1 : ¬ ((Dk.count n : Int) < n ∧ (Dk.count n : Int) < 4096) := by have := CN.out; omega
      by_cases j2 : (Dk.count n : Int) < n
      · have j3 : ¬ (Dk.count n : Int) < 4096 := fun q => j1 ⟨j2, q⟩
        clear j1 hmk
        go_wp2
        go_ret
        exact ⟨_, rfl, ⟨AS, none, AB, cS, 0, cB, mj, [], RJ.out, HT.out, rfl⟩, HB.out⟩
      · clear j1 hmk
        go_wp2
        go_ret
        exact ⟨_, rfl, ⟨AS, none, AB, cS, 0, cB, mj, [], RJ.out, HT.out, rfl⟩, HB.out⟩
end Go.Proofs.YtbfkjneidabijaaGreat
