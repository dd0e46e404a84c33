import Derived.Test.YtmcfknnfaokmlaaGreatZ23
import Derived.Test.YtmcfknnfaokmlaaGreatZ24
import Derived.Deep.LoopGhost
import Derived.Lib.Overlaps
import Derived.Shelf.Spec.SlicesInsert
import Derived.WalkLawsBesides
namespace Go.Proofs.YtmcfknnfaokmlaaGreat
set_option maxHeartbeats 16000000
open Go.Lib Go.Proofs.Tryz
set_option linter.unusedSimpArgs false
set_option maxRecDepth 100000
section
open Go.RowKit Go.Lib
theorem iU (b:Nat) (w:World):Calls prog 131 #[.float .f64 b] w fun e w'=>e=.returned (.bool (T9.jr b))∧w=w':=by
 go_enter func131,ntmps131
 go_wp2_with (first | (go_at_call 126;refine (float64bits_c _ _).mono ?_;rintro e w' ⟨rfl,rfl⟩) | (go_at_call 127;refine (ig _ _).mono ?_;rintro e w' ⟨rfl,rfl⟩))
 go_ret
 exact⟨rfl,rfl⟩
theorem fZ {g:Nat} {all what:Int} {b:Bool} {W:World} (hc:W.cell? ⟨g,0,none⟩=some (.int .i64 all)) (hx:(bits BinOp.and IntKind.i64 all what != 0)=b) :
  Calls prog 130 #[.int .i64 what,.pointer (some ⟨g,0,none⟩)] W fun e w'=>e=.returned (.bool b)∧W=w':=by
 go_enter func130,ntmps130
 go_wp2
 go_ret
 exact⟨rfl,rfl⟩
theorem CZ (w:World):Calls prog 129 #[.int .i64 1] w fun e w'=>e=.returned (.int .i64 10)∧w=w':=by
 go_enter func129,ntmps129
 go_wp2
 go_ret
 exact⟨rfl,rfl⟩
theorem C8 (w:World):Calls prog 129 #[.int .i64 2] w fun e w'=>e=.returned (.int .i64 2)∧w=w':=by
 go_enter func129,ntmps129
 go_wp2
 go_ret
 exact⟨rfl,rfl⟩
theorem C_ (w:World):Calls prog 129 #[.int .i64 3] w fun e w'=>e=.returned (.int .i64 45)∧w=w':=by
 go_enter func129,ntmps129
 go_wp2
 go_ret
 exact⟨rfl,rfl⟩
theorem Da (w:World):Calls prog 129 #[.int .i64 4] w fun e w'=>e=.returned (.int .i64 12)∧w=w':=by
 go_enter func129,ntmps129
 go_wp2
 go_ret
 exact⟨rfl,rfl⟩
theorem Db (w:World):Calls prog 129 #[.int .i64 5] w fun e w'=>e=.returned (.int .i64 132)∧w=w':=by
 go_enter func129,ntmps129
 go_wp2
 go_ret
 exact⟨rfl,rfl⟩
theorem Dc (w:World):Calls prog 129 #[.int .i64 6] w fun e w'=>e=.returned (.int .i64 37)∧w=w':=by
 go_enter func129,ntmps129
 go_wp2
 go_ret
 exact⟨rfl,rfl⟩
theorem De (w:World):Calls prog 129 #[.int .i64 7] w fun e w'=>e=.returned (.int .i64 36)∧w=w':=by
 go_enter func129,ntmps129
 go_wp2
 go_ret
 exact⟨rfl,rfl⟩
theorem Df (w:World):Calls prog 129 #[.int .i64 8] w fun e w'=>e=.returned (.int .i64 68)∧w=w':=by
 go_enter func129,ntmps129
 go_wp2
 go_ret
 exact⟨rfl,rfl⟩
theorem Dh (w:World):Calls prog 129 #[.int .i64 9] w fun e w'=>e=.returned (.int .i64 20)∧w=w':=by
 go_enter func129,ntmps129
 go_wp2
 go_ret
 exact⟨rfl,rfl⟩
theorem Ac (w:World):Calls prog 129 #[.int .i64 10] w fun e w'=>e=.returned (.int .i64 20)∧w=w':=by
 go_enter func129,ntmps129
 go_wp2
 go_ret
 exact⟨rfl,rfl⟩
theorem Ad (w:World):Calls prog 129 #[.int .i64 11] w fun e w'=>e=.returned (.int .i64 4)∧w=w':=by
 go_enter func129,ntmps129
 go_wp2
 go_ret
 exact⟨rfl,rfl⟩
theorem Ae (w:World):Calls prog 129 #[.int .i64 12] w fun e w'=>e=.returned (.int .i64 1)∧w=w':=by
 go_enter func129,ntmps129
 go_wp2
 go_ret
 exact⟨rfl,rfl⟩
theorem Ag (w:World):Calls prog 129 #[.int .i64 13] w fun e w'=>e=.returned (.int .i64 1)∧w=w':=by
 go_enter func129,ntmps129
 go_wp2
 go_ret
 exact⟨rfl,rfl⟩
theorem iG {w w1:World} {a b c d e f:Value} (v:Int) (pb:w1.heap[w.heap.size]?=some (.cells #[a,b,c,d,e,f] 55 (0,0))) (b1:Below w.heap.size w w1) :
  ∃ w2,w1.alloc (.cells #[.int .i64 v] 3)=w2∧w2.cell? ⟨w1.heap.size,0,none⟩=some (.int .i64 v)∧(w2.cell? ⟨w.heap.size,0,none⟩=some a∧w2.cell? ⟨w.heap.size,1,none⟩=some b∧w2.cell? ⟨w.heap.size,2,none⟩=some c∧w2.cell? ⟨w.heap.size,3,none⟩=some d∧w2.cell? ⟨w.heap.size,4,none⟩=some e∧w2.cell? ⟨w.heap.size,5,none⟩=some f)∧Hid (Below w.heap.size w w2):=by
 have b2:=(Below.refl _ w1).alloc (Nat.le_refl _) (.cells #[.int .i64 v] 3)
 exact⟨_,rfl,cell_of_one (heap_alloc_new w1 _),au ((b2.block w.heap.size (lt_of_block pb)).trans pb),hid (b1.trans (b2.mono b1.size))⟩
theorem dL (n:Nat):(Hid (n=0)∧((n:Int) != 0)=false∧((n:Int)==0)=true)∨(Hid (¬ n=0)∧((n:Int) != 0)=true∧((n:Int)==0)=false):=by
 by_cases h:n=0
 ·subst h;exact Or.inl ⟨hid rfl,rfl,rfl⟩
 ·exact Or.inr ⟨hid h,by rw [bne_iff_ne];omega,by rw [beq_eq_false_iff_ne];omega⟩
theorem bX (b:Bool):b=false∨b=true:=by cases b;exact Or.inl rfl;exact Or.inr rfl
theorem lX (b:Bool):(b=false∧(!b)=true)∨(b=true∧(!b)=false):=by cases b;exact Or.inl ⟨rfl,rfl⟩;exact Or.inr ⟨rfl,rfl⟩
theorem nZ (l:List UInt8):(Hid (l=[])∧l.isEmpty=true∧(!l.isEmpty)=false)∨(Hid (¬ l=[])∧l.isEmpty=false∧(!l.isEmpty)=true):=by
 cases l with
 | nil=>exact Or.inl ⟨hid rfl,rfl,rfl⟩
 | cons a l=>exact Or.inr ⟨hid (by simp),rfl,rfl⟩
theorem iH {g:Nat} {all:Int} {b1 b2 b4 b6 b8 b16 xq b32 xu kP:Bool} {W:World} (hc:W.cell? ⟨g,0,none⟩=some (.int .i64 all)) (h:[bits BinOp.and IntKind.i64 all 1 != 0,bits BinOp.and IntKind.i64 all 2 != 0,bits BinOp.and IntKind.i64 all 4 != 0,bits BinOp.and IntKind.i64 all 6 != 0,bits BinOp.and IntKind.i64 all 8 != 0,bits BinOp.and IntKind.i64 all 16 != 0,bits BinOp.and IntKind.i64 all 24 != 0,bits BinOp.and IntKind.i64 all 32 != 0,bits BinOp.and IntKind.i64 all 96 != 0,bits BinOp.and IntKind.i64 all 128 != 0]=[b1,b2,b4,b6,b8,b16,xq,b32,xu,kP]) :
  Hid (Calls prog 130 #[.int .i64 1,.pointer (some ⟨g,0,none⟩)] W fun e w'=>e=.returned (.bool b1)∧W=w')∧Hid (Calls prog 130 #[.int .i64 2,.pointer (some ⟨g,0,none⟩)] W fun e w'=>e=.returned (.bool b2)∧W=w')∧Hid (Calls prog 130 #[.int .i64 4,.pointer (some ⟨g,0,none⟩)] W fun e w'=>e=.returned (.bool b4)∧W=w')∧Hid (Calls prog 130 #[.int .i64 6,.pointer (some ⟨g,0,none⟩)] W fun e w'=>e=.returned (.bool b6)∧W=w')∧Hid (Calls prog 130 #[.int .i64 8,.pointer (some ⟨g,0,none⟩)] W fun e w'=>e=.returned (.bool b8)∧W=w')∧Hid (Calls prog 130 #[.int .i64 16,.pointer (some ⟨g,0,none⟩)] W fun e w'=>e=.returned (.bool b16)∧W=w')∧Hid (Calls prog 130 #[.int .i64 24,.pointer (some ⟨g,0,none⟩)] W fun e w'=>e=.returned (.bool xq)∧W=w')∧Hid (Calls prog 130 #[.int .i64 32,.pointer (some ⟨g,0,none⟩)] W fun e w'=>e=.returned (.bool b32)∧W=w')∧Hid (Calls prog 130 #[.int .i64 96,.pointer (some ⟨g,0,none⟩)] W fun e w'=>e=.returned (.bool xu)∧W=w')∧Hid (Calls prog 130 #[.int .i64 128,.pointer (some ⟨g,0,none⟩)] W fun e w'=>e=.returned (.bool kP)∧W=w'):=by
 simp only [List.cons.injEq,and_true] at h
 obtain⟨h1,h2,h4,h6,h8,h16,h24,h32,h96,h128⟩:=h
 exact⟨hid (fZ hc h1),hid (fZ hc h2),hid (fZ hc h4),hid (fZ hc h6),hid (fZ hc h8),hid (fZ hc h16),hid (fZ hc h24),hid (fZ hc h32),hid (fZ hc h96),hid (fZ hc h128)⟩
end
end Go.Proofs.YtmcfknnfaokmlaaGreat
