import Derived.Test.YtcedlgedmkghgaaZ24
import Derived.Test.YtcedlgedmkghgaaZ26
import Derived.Deep.LoopGhost
import Derived.Lib.Overlaps
import Derived.Shelf.Spec.SlicesInsert
import Derived.WalkLawsBesides
namespace Go.Proofs.Ytcedlgedmkghgaa
set_option maxHeartbeats 16000000
open Go.Lib
set_option linter.unusedSimpArgs false
set_option maxRecDepth 100000
section
open Go.RowKit Go.Lib
theorem fZ (b:Nat) (w:World):Calls Try.prog 89 #[.float .f64 b] w fun e w'=>e=.returned (.bool (T9.j6 b))∧w=w':=by
 go_enter Try.func89,Try.ntmps89
 go_wp2_with (first | (go_at_call 78;refine (float64bits_c _ _).mono ?_;rintro e w' ⟨rfl,rfl⟩) | (go_at_call 79;refine (fu _ _).mono ?_;rintro e w' ⟨rfl,rfl⟩))
 go_ret
 exact⟨rfl,rfl⟩
theorem dU {g:Nat} {all what:Int} {b:Bool} {W:World} (hc:W.cell? ⟨g,0,none⟩=some (.int .i64 all)) (hx:(bits BinOp.and IntKind.i64 all what != 0)=b) :
  Calls Try.prog 88 #[.int .i64 what,.pointer (some ⟨g,0,none⟩)] W fun e w'=>e=.returned (.bool b)∧W=w':=by
 go_enter Try.func88,Try.ntmps88
 go_wp2
 go_ret
 exact⟨rfl,rfl⟩
theorem wF (w:World):Calls Try.prog 87 #[.int .i64 1] w fun e w'=>e=.returned (.int .i64 10)∧w=w':=by
 go_enter Try.func87,Try.ntmps87
 go_wp2
 go_ret
 exact⟨rfl,rfl⟩
theorem wG (w:World):Calls Try.prog 87 #[.int .i64 2] w fun e w'=>e=.returned (.int .i64 2)∧w=w':=by
 go_enter Try.func87,Try.ntmps87
 go_wp2
 go_ret
 exact⟨rfl,rfl⟩
theorem wH (w:World):Calls Try.prog 87 #[.int .i64 3] w fun e w'=>e=.returned (.int .i64 45)∧w=w':=by
 go_enter Try.func87,Try.ntmps87
 go_wp2
 go_ret
 exact⟨rfl,rfl⟩
theorem wI (w:World):Calls Try.prog 87 #[.int .i64 4] w fun e w'=>e=.returned (.int .i64 12)∧w=w':=by
 go_enter Try.func87,Try.ntmps87
 go_wp2
 go_ret
 exact⟨rfl,rfl⟩
theorem wJ (w:World):Calls Try.prog 87 #[.int .i64 5] w fun e w'=>e=.returned (.int .i64 132)∧w=w':=by
 go_enter Try.func87,Try.ntmps87
 go_wp2
 go_ret
 exact⟨rfl,rfl⟩
theorem wK (w:World):Calls Try.prog 87 #[.int .i64 6] w fun e w'=>e=.returned (.int .i64 37)∧w=w':=by
 go_enter Try.func87,Try.ntmps87
 go_wp2
 go_ret
 exact⟨rfl,rfl⟩
theorem wL (w:World):Calls Try.prog 87 #[.int .i64 7] w fun e w'=>e=.returned (.int .i64 36)∧w=w':=by
 go_enter Try.func87,Try.ntmps87
 go_wp2
 go_ret
 exact⟨rfl,rfl⟩
theorem wM (w:World):Calls Try.prog 87 #[.int .i64 8] w fun e w'=>e=.returned (.int .i64 68)∧w=w':=by
 go_enter Try.func87,Try.ntmps87
 go_wp2
 go_ret
 exact⟨rfl,rfl⟩
theorem wN (w:World):Calls Try.prog 87 #[.int .i64 9] w fun e w'=>e=.returned (.int .i64 20)∧w=w':=by
 go_enter Try.func87,Try.ntmps87
 go_wp2
 go_ret
 exact⟨rfl,rfl⟩
theorem uz (w:World):Calls Try.prog 87 #[.int .i64 10] w fun e w'=>e=.returned (.int .i64 20)∧w=w':=by
 go_enter Try.func87,Try.ntmps87
 go_wp2
 go_ret
 exact⟨rfl,rfl⟩
theorem uA (w:World):Calls Try.prog 87 #[.int .i64 11] w fun e w'=>e=.returned (.int .i64 4)∧w=w':=by
 go_enter Try.func87,Try.ntmps87
 go_wp2
 go_ret
 exact⟨rfl,rfl⟩
theorem uB (w:World):Calls Try.prog 87 #[.int .i64 12] w fun e w'=>e=.returned (.int .i64 1)∧w=w':=by
 go_enter Try.func87,Try.ntmps87
 go_wp2
 go_ret
 exact⟨rfl,rfl⟩
theorem uC (w:World):Calls Try.prog 87 #[.int .i64 13] w fun e w'=>e=.returned (.int .i64 1)∧w=w':=by
 go_enter Try.func87,Try.ntmps87
 go_wp2
 go_ret
 exact⟨rfl,rfl⟩
theorem fJ {w w1:World} {a b c d e f:Value} (v:Int) (pb:w1.heap[w.heap.size]?=some (.cells #[a,b,c,d,e,f] 49 (0,0))) (b1:Below w.heap.size w w1) :
  ∃ w2,w1.alloc (.cells #[.int .i64 v] 3)=w2∧w2.cell? ⟨w1.heap.size,0,none⟩=some (.int .i64 v)∧(w2.cell? ⟨w.heap.size,0,none⟩=some a∧w2.cell? ⟨w.heap.size,1,none⟩=some b∧w2.cell? ⟨w.heap.size,2,none⟩=some c∧w2.cell? ⟨w.heap.size,3,none⟩=some d∧w2.cell? ⟨w.heap.size,4,none⟩=some e∧w2.cell? ⟨w.heap.size,5,none⟩=some f)∧Hid (Below w.heap.size w w2):=by
 have b2:=(Below.refl _ w1).alloc (Nat.le_refl _) (.cells #[.int .i64 v] 3)
 exact⟨_,rfl,cell_of_one (heap_alloc_new w1 _),au ((b2.block w.heap.size (lt_of_block pb)).trans pb),hid (b1.trans (b2.mono b1.size))⟩
theorem bJ (n:Nat):(Hid (n=0)∧((n:Int) != 0)=false∧((n:Int)==0)=true)∨(Hid (¬ n=0)∧((n:Int) != 0)=true∧((n:Int)==0)=false):=by
 by_cases h:n=0
 ·subst h;exact Or.inl ⟨hid rfl,rfl,rfl⟩
 ·exact Or.inr ⟨hid h,by rw [bne_iff_ne];omega,by rw [beq_eq_false_iff_ne];omega⟩
theorem aV (b:Bool):b=false∨b=true:=by cases b;exact Or.inl rfl;exact Or.inr rfl
theorem iY (b:Bool):(b=false∧(!b)=true)∨(b=true∧(!b)=false):=by cases b;exact Or.inl ⟨rfl,rfl⟩;exact Or.inr ⟨rfl,rfl⟩
theorem jS (l:List UInt8):(Hid (l=[])∧l.isEmpty=true∧(!l.isEmpty)=false)∨(Hid (¬ l=[])∧l.isEmpty=false∧(!l.isEmpty)=true):=by
 cases l with
 | nil=>exact Or.inl ⟨hid rfl,rfl,rfl⟩
 | cons a l=>exact Or.inr ⟨hid (by simp),rfl,rfl⟩
theorem fK {g:Nat} {all:Int} {b1 b2 b4 b6 b8 b16 qE b32 qF iA:Bool} {W:World} (hc:W.cell? ⟨g,0,none⟩=some (.int .i64 all)) (h:[bits BinOp.and IntKind.i64 all 1 != 0,bits BinOp.and IntKind.i64 all 2 != 0,bits BinOp.and IntKind.i64 all 4 != 0,bits BinOp.and IntKind.i64 all 6 != 0,bits BinOp.and IntKind.i64 all 8 != 0,bits BinOp.and IntKind.i64 all 16 != 0,bits BinOp.and IntKind.i64 all 24 != 0,bits BinOp.and IntKind.i64 all 32 != 0,bits BinOp.and IntKind.i64 all 96 != 0,bits BinOp.and IntKind.i64 all 128 != 0]=[b1,b2,b4,b6,b8,b16,qE,b32,qF,iA]) :
  Hid (Calls Try.prog 88 #[.int .i64 1,.pointer (some ⟨g,0,none⟩)] W fun e w'=>e=.returned (.bool b1)∧W=w')∧Hid (Calls Try.prog 88 #[.int .i64 2,.pointer (some ⟨g,0,none⟩)] W fun e w'=>e=.returned (.bool b2)∧W=w')∧Hid (Calls Try.prog 88 #[.int .i64 4,.pointer (some ⟨g,0,none⟩)] W fun e w'=>e=.returned (.bool b4)∧W=w')∧Hid (Calls Try.prog 88 #[.int .i64 6,.pointer (some ⟨g,0,none⟩)] W fun e w'=>e=.returned (.bool b6)∧W=w')∧Hid (Calls Try.prog 88 #[.int .i64 8,.pointer (some ⟨g,0,none⟩)] W fun e w'=>e=.returned (.bool b8)∧W=w')∧Hid (Calls Try.prog 88 #[.int .i64 16,.pointer (some ⟨g,0,none⟩)] W fun e w'=>e=.returned (.bool b16)∧W=w')∧Hid (Calls Try.prog 88 #[.int .i64 24,.pointer (some ⟨g,0,none⟩)] W fun e w'=>e=.returned (.bool qE)∧W=w')∧Hid (Calls Try.prog 88 #[.int .i64 32,.pointer (some ⟨g,0,none⟩)] W fun e w'=>e=.returned (.bool b32)∧W=w')∧Hid (Calls Try.prog 88 #[.int .i64 96,.pointer (some ⟨g,0,none⟩)] W fun e w'=>e=.returned (.bool qF)∧W=w')∧Hid (Calls Try.prog 88 #[.int .i64 128,.pointer (some ⟨g,0,none⟩)] W fun e w'=>e=.returned (.bool iA)∧W=w'):=by
 simp only [List.cons.injEq,and_true] at h
 obtain⟨h1,h2,h4,h6,h8,h16,h24,h32,h96,h128⟩:=h
 exact⟨hid (dU hc h1),hid (dU hc h2),hid (dU hc h4),hid (dU hc h6),hid (dU hc h8),hid (dU hc h16),hid (dU hc h24),hid (dU hc h32),hid (dU hc h96),hid (dU hc h128)⟩
end
end Go.Proofs.Ytcedlgedmkghgaa
