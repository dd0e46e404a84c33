/- Stage 9: what is handed to the sort and to CompactFunc at tasks and at strings; this program bears their bodies. Stage 9: task.own, slices.SortStableFunc, task.rising: copies; in order, once each. -/
import Derived.Test.YtnhpkcphgdkdiaaTq
import Derived.Test.YtnhpkcphgdkdiaaTd
import Derived.Test.YtnhpkcphgdkdiaaTg
import Derived.Test.YtnhpkcphgdkdiaaAp
namespace Go.Proofs.Ytnhpkcphgdkdiaa
set_option maxRecDepth 100000

section
open Go.Shelf Go.RowKit Go.Lib Go.Sort

theorem srtK : SrtK Try.prog := ⟨mixed9, Try.func67, Try.func65, Try.func56, Try.func57, Try.func34, Try.call67, Try.call65, Try.call56, Try.call57, Try.underlying0, Try.isAgg0, Try.sizeOf0, Try.zeroValue0, Try.underlying3, Try.isAgg3, Try.sizeOf3, Try.zeroValue3, Try.underlying4, Try.isAgg4, Try.sizeOf4, Try.zeroValue4, Try.underlying87, Try.isAgg87, Try.sizeOf87, Try.zeroValue87, Try.underlying23, Try.isAgg23, Try.sizeOf23, Try.zeroValue23, Try.underlying57, Try.isAgg57, Try.sizeOf57, Try.zeroValue57⟩
end

section
open Go.Shelf Go.RowKit Go.Lib Go.Sort

theorem Try.infoLi9 : (Try.prog.info? 49).map (fun i => (i.zero, i.size, i.bytes)) = some (some (.agg #[.int .u64 0, .string ⟨#[]⟩]), 2, 24) := by kernel_rfl
theorem Try.infoTk9 : (Try.prog.info? 32).map (fun i => (i.zero, i.size, i.bytes)) = some (some (.agg #[.int .u64 0, .int .u64 0, .string ⟨#[]⟩, .bool false, .float .f64 0, .float .f64 0, .slice none 0 0]), 7, 80) := by kernel_rfl
theorem Try.infoStr9 : (Try.prog.info? 9).map (fun i => (i.zero, i.size, i.bytes)) = some (some (.string ⟨#[]⟩), 1, 16) := by kernel_rfl

/-- Nothing is appended. -/
theorem run_app_zero {P : Program} (w : World) (t ty e : TypeId) (i : TypeInfo) (ht : P.underlying t = some (.slice e)) (hi : P.info? e = some i) (A A2 : Option Addr) (n c c2 : Nat) (hn : n ≤ c) : (Builtin.append_ #[t, t] ty #[.slice A n c, .slice A2 0 c2]).run P w = .ok (.slice A n c) w := by
  cases A2 <;> cases A <;> simp [Builtin.append_, run_underlying ht, sizeOf, typeInfo, hi, Builtin.lenOf, Builtin.firstCells, hn, storeCells, loadCells, loadCellsFrom]

/-- A copy: of nothing, or a row of one's own. -/
def OwnOk9 (t : TypeId) (size : Nat) (cells : List Value) (n : Nat) (w : World) (e : Ending) (w' : World) : Prop :=
  ∃ A2 c2, e = .returned (.slice A2 n c2) ∧ n ≤ c2 ∧ (n = 0 ∧ c2 = 0 ∨ ∃ g, A2 = some ⟨g, 0, none⟩ ∧ w'.ownsRow w.heap.size t size (.slice A2 n c2) n cells) ∧ Below w.heap.size w w'

theorem own_at_any {w : World} {B : Nat} {e : TypeId} {size : Nat} {A : Option Addr} {n c : Nat} {xs : List Value} (h : w.ownsRow B e size (.slice A n c) n xs) (hn : 0 < n) : ∃ g, A = some ⟨g, 0, none⟩ ∧ B ≤ g := by
  rcases h.2 with ⟨_, h0⟩ | ⟨g, cap, cur, hv, hB, _⟩
  · omega
  · injection hv with h1
    exact ⟨g, h1, hB⟩
theorem own_room_max {w : World} {B : Nat} {e : TypeId} {size : Nat} {A : Option Addr} {n c : Nat} {xs : List Value} (h : w.ownsRow B e size (.slice A n c) n xs) : c ≤ maxLen := by
  rcases h.2 with ⟨hv, _⟩ | ⟨g, cap, cur, hv, _, _, _, hc, _⟩
  · injection hv with _ _ h3; subst h3; exact Nat.zero_le _
  · injection hv with _ _ h3; subst h3; exact hc

theorem stable0M_c (A : Option Addr) (c : Nat) (f : Value) (w : World) : Calls Try.prog 34 #[.slice A 0 c, .int .i64 0, f] w fun e w' => e = .returned (.tuple #[]) ∧ w = w' := by
  have hi : Calls Try.prog 56 #[.slice A 0 c, .int .i64 0, .int .i64 0, f] w fun e w' => e = .returned (.tuple #[]) ∧ w = w' := by
    go_enter Try.func56, Try.ntmps56
    go_wp2_with fail
    go_loopw [8] (fun s8 wr => s8 = .int .i64 1 ∧ wr = w) (fun _ _ => 0)
    case atStart => exact ⟨rfl, rfl⟩
    case round =>
      obtain ⟨rfl, rfl⟩ := hrel
      go_wp2
      go_end0
      exact ⟨rfl, rfl⟩
  have HI := Lib.hid hi
  clear hi
  go_enter Try.func34, Try.ntmps34
  go_wp2_with fail
  go_loopw [7, 8] (fun s7 s8 wr => s7 = .int .i64 0 ∧ s8 = .int .i64 20 ∧ wr = w) (fun _ _ _ => 0)
  case atStart => exact ⟨rfl, rfl, rfl⟩
  case round =>
    obtain ⟨rfl, rfl, rfl⟩ := hrel
    go_wp2_with (go_at_call 56; refine HI.out.mono ?_; rintro e w1 ⟨rfl, rfl⟩)
    go_loopw [6] (fun s6 wr2 => s6 = .int .i64 20 ∧ wr2 = wr) (fun _ _ => 0)
    case atStart => exact ⟨rfl, rfl⟩
    case round =>
      obtain ⟨rfl, rfl⟩ := hrel
      go_wp2
      go_end0
      exact ⟨rfl, rfl⟩
theorem sort0M_c (A : Option Addr) (c : Nat) (f : Value) (w : World) : Calls Try.prog 19 #[.slice A 0 c, f] w fun e w' => e = .returned (.tuple #[]) ∧ w = w' := by
  go_enter Try.func19, Try.ntmps19
  go_wp2_with (go_at_call 34; refine (stable0M_c _ _ _ _).mono ?_; rintro e w1 ⟨rfl, rfl⟩)
  go_end0
  exact ⟨rfl, rfl⟩
theorem sortM_c {blk cap : Nat} {d : Array MTk} {w : World} {g : Nat} {cb : Array Value} (R : RowK encK 7 w blk 0 d) (S : SWK encK 7 w blk 0 d w) (eg : ∀ args w, (callFunc g args).run Try.prog w = .ok (.enter g args) w) (hcmp : CmpLays Try.prog g cb encK 7 cfM blk 0 d.size w) (ho : Sr.WO (ltOf cfM)) (hsz : d.size < 4611686018427387904) (n : Nat) (hn : n = d.size) :
    Calls Try.prog 19 #[.slice (some ⟨blk, 0, none⟩) n cap, .func (.func g) #[] cb] w fun e w' => e = .returned (.tuple #[]) ∧ SrtOkK cfM encK 7 w blk 0 d [] d.toList [] w' := by
  have hc := stableK srtK 7 Try.isAgg32 Try.sizeOf32 encK blk 0 cap d d w w R rfl S cfM g cb eg hcmp ho n hn hsz
  rw [← hn] at hc
  have HC := Lib.hid hc
  clear hc hcmp ho R S hn hsz
  go_enter Try.func19, Try.ntmps19
  go_wp2_with (go_at_call 34; refine HC.out.mono ?_; rintro e w1 ⟨rfl, hw1⟩)
  have H := Lib.hid hw1
  clear hw1
  go_wp2
  go_end0
  exact ⟨rfl, H.out⟩

/-- Things in order, once each: in a row of one's own, unless there are none. -/
def RisOk (t : TypeId) (size : Nat) (cells : List Value) (n : Nat) (w : World) (e : Ending) (w' : World) : Prop :=
  ∃ A2 c2, e = .returned (.slice A2 n c2) ∧ n ≤ c2 ∧ (n = 0 ∧ c2 = 0 ∨ ∃ g, A2 = some ⟨g, 0, none⟩ ∧ w'.ownsRow w.heap.size t size (.slice A2 n c2) n cells) ∧ Lies w' w'.heap.size 0 A2 cells ∧ Below w.heap.size w w'

end
end Go.Proofs.Ytnhpkcphgdkdiaa
