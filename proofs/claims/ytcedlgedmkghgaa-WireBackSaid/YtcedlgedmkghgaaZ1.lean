import Derived.Sort.Lot0
namespace Go.Proofs.Ytcedlgedmkghgaa
set_option maxHeartbeats 16000000
set_option linter.unusedSimpArgs false
set_option maxRecDepth 100000
section
section
open Go.Sort
namespace Sr
section
variable {α : Type} {lt : α → α → Bool}
section
variable [Inhabited α]
end
section
variable [Inhabited α]
end
def ins (lt:α→α→Bool) (x:α):List α→List α
 | []=>[x]
 | y :: l=>if lt y x=true then y :: ins lt x l else if lt x y=true then x :: y :: l else y :: l
def canon (lt:α→α→Bool) (l:List α):List α:=l.foldl (fun o x=>ins lt x o) []
def Str (lt:α→α→Bool) (l:List α):Prop:=l.Pairwise fun a b=>lt a b=true
end
end Sr
end
section
namespace Sr
variable {α : Type} {lt : α → α → Bool}
end Sr
end
end
end Go.Proofs.Ytcedlgedmkghgaa
