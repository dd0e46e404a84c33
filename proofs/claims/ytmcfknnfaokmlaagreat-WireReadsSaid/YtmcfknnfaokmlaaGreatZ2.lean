import Derived.Test.YtmcfknnfaokmlaaGreatZ1
import Derived.Deep.MidRow
import Derived.Deep.WholeRow
import Derived.Maps.RangeWalk
import Derived.Maps.Ext
import Derived.Laws.CopyOwn
import Derived.Great.BuildSlice
import Derived.Calls
import Derived.Below
import Derived.ProofKit
namespace Go.Proofs.YtmcfknnfaokmlaaGreat
set_option maxHeartbeats 16000000
set_option linter.unusedSimpArgs false
set_option maxRecDepth 100000
section
open Go.RowKit
section
variable {α : Type} {f : α → List Value} {size : Nat}
theorem jS:∀ {l:List α},(∀ x∈l,(f x).length=size)→(l.flatMap f).length=l.length * size
 | [],_=>by simp
 | x :: l,h=>by
  rw [List.flatMap_cons,List.length_append,jS (fun y hy=>h y (List.mem_cons_of_mem _ hy)),h x (List.mem_cons_self ..),List.length_cons,Nat.add_mul,Nat.one_mul,Nat.add_comm]
theorem mR:∀ {l:List α},(∀ x∈l,(f x).length=size)→∀ {k:Nat} {x:α},l[k]?=some x→∀ {j:Nat},j<size→(l.flatMap f)[k * size+j]?=(f x)[j]?
 | [],_,k,x,h,_,_=>by simp at h
 | y :: l,hf,0,x,h,j,hj=>by
  simp only [List.getElem?_cons_zero,Option.some.injEq] at h
  subst h
  rw [List.flatMap_cons,Nat.zero_mul,Nat.zero_add,List.getElem?_append_left (by rw [hf y (List.mem_cons_self ..)];exact hj)]
 | y :: l,hf,k+1,x,h,j,hj=>by
  simp only [List.getElem?_cons_succ] at h
  have hy:=hf y (List.mem_cons_self ..)
  rw [List.flatMap_cons,List.getElem?_append_right (by rw [hy,Nat.add_mul];omega),hy,show (k+1) * size+j - size=k * size+j by rw [Nat.add_mul];omega]
  exact mR (fun z hz=>hf z (List.mem_cons_of_mem _ hz)) h hj
end
section
variable {w : World}
theorem heap_setCells_other {b k:Nat} (h:k≠b):∀ (vs:List Value) (o:Nat) (w:World),(w.setCells b o vs).heap[k]?=w.heap[k]?
 | [],_,_=>rfl
 | v :: r,o,w=>by
  rw [World.setCells,heap_setCells_other h r]
  exact Below.heap_setCell _ _ _ _ h
theorem kL (b:Nat):∀ (vs:List Value) (o:Nat) (w:World),(w.setCells b o vs).os=w.os∧(w.setCells b o vs).tape=w.tape∧(w.setCells b o vs).output=w.output∧(w.setCells b o vs).heap.size=w.heap.size
 | [],_,_=>⟨rfl,rfl,rfl,rfl⟩
 | v :: r,o,w=>by
  obtain⟨h1,h2,h3,h4⟩:=kL b r (o+1) (w.setCell ⟨b,o,none⟩ v)
  exact⟨h1,h2,h3,by rw [World.setCells,h4];simp [World.setCell]⟩
theorem gU (b:Nat) (vs:List Value) (o:Nat) (w:World):w.grownBy (w.setCells b o vs) (some b):=by
 obtain⟨h1,h2,h3,h4⟩:=kL b vs o w
 exact⟨h1,h2,h3,by omega,fun k _ hk=>heap_setCells_other (fun e=>hk (by rw [e])) vs o w⟩
variable {base : Nat} {e : TypeId} {size n c g : Nat} {xs : List Value}
end
def key (i:Int):Lit:=.int .i64 i
def at_ (D:DataW Value) (i:Int):DataW Value:=D.atKey (key i) (.held (.slice none 0 0))
section
variable {P : Program} {w : World} {t k e : TypeId} {b n : Nat} {D : DataW Value}
end
section
variable {P : Program} {w w' : World} {ops : Array Oper} {rest : List Oper} {o : Oper} {a : Act} {K : Act → World → Prop} {Q : Exit → Act → World → Prop} {E : Prop}
theorem dQ (w:World) (t e:TypeId) (cs:Array Value) (ie:TypeInfo) (z:Value) (hu:P.underlying t=some (.slice e)) (hie:P.info? e=some ie) (hz:ie.zero=some z) (hs:ie.size=cs.size) (h0:0<cs.size) (hm:cs.size≤16777216) :
  (Instr.buildSlice t 1 #[(0,.agg cs)]).run P w=.ok (.slice (some ⟨w.heap.size,0,none⟩) 1 1) (w.alloc (.cells cs e)):=by
 refine run_buildSlice w t e 1 _ cs ie z hu hie hz (by rw [hs,Nat.one_mul];show ¬ cs.size > 16777216;omega) (by rw [hs,Nat.one_mul];omega) ?_
 have q:=Great.fill_whole (s:=ie.size) (by rw [hs];exact h0) [Value.agg cs] ((Array.range (1 * ie.size)).map (z.cells[· % z.cells.size]!)) (fun v hv=>by rw [List.mem_singleton] at hv;subst hv;exact hs.symm) (by simp)
 simpa [Value.cells] using q
end
end
section
section
theorem gM {a b:Int} (h:a=b):Ending.returned (.int .u64 a)=.returned (.int .u64 b):=by rw [h]
theorem uu {a b:Int} (h:a=b):Ending.returned (.int .u32 a)=.returned (.int .u32 b):=by rw [h]
theorem az {a b:Int} (h:a=b):Ending.returned (.int .i64 a)=.returned (.int .i64 b):=by rw [h]
theorem j4 {a b:Nat} (h:a=b):Ending.returned (.float .f64 a)=.returned (.float .f64 b):=by rw [h]
theorem aj {a b:Bool} (h:a=b):Ending.returned (.bool a)=.returned (.bool b):=by rw [h]
theorem mH {a b:Int} (h:a=b):Value.int .u32 a=.int .u32 b:=by rw [h]
namespace Cd
def iP (n k:Nat):UInt8:=UInt8.ofNat (n / 256 ^ k % 256)
def fix (n:Nat):Nat→List UInt8
 | 0=>[]
 | k+1=>iP n k :: fix n k
def wid (n:Nat):Nat :=
 if n<256 then 1 else if n<65536 then 2 else if n<16777216 then 3 else if n<4294967296 then 4 else if n<1099511627776 then 5 else if n<281474976710656 then 6 else if n<72057594037927936 then 7 else 8
def num (n:Nat):List UInt8:=if n<128 then [iP n 0] else UInt8.ofNat (128+wid n) :: fix n (wid n)
def ev (l:List UInt8):Nat:=l.foldl (fun n b=>n * 256+b.toNat) 0
def val (l:List UInt8):Nat:=ev l % 18446744073709551616
theorem fq (n k:Nat):(iP n k).toNat=n / 256 ^ k % 256:=by
 unfold iP
 rw [UInt8.toNat_ofNat']
 exact Nat.mod_eq_of_lt (Nat.mod_lt _ (by omega))
theorem aC (n k:Nat):(fix n k).length=k:=by
 induction k with
 | zero=>rfl
 | succ k ih=>simp [fix,ih]
theorem dZ (n:Nat):1≤wid n∧wid n≤8:=by
 unfold wid
 repeat' split
 all_goals omega
theorem bO (n:Nat):(n<256∧wid n=1)∨(256≤n∧n<65536∧wid n=2)∨(65536≤n∧n<16777216∧wid n=3)∨(16777216≤n∧n<4294967296∧wid n=4)∨(4294967296≤n∧n<1099511627776∧wid n=5)
  ∨ (1099511627776≤n∧n<281474976710656∧wid n=6)∨(281474976710656≤n∧n<72057594037927936∧wid n=7)∨(72057594037927936≤n∧wid n=8):=by
 unfold wid
 repeat' split
 all_goals omega
theorem wid_lt {n:Nat} (h:n<18446744073709551616):n<256 ^ wid n:=by
 unfold wid
 split;· simpa
 split;· simpa
 split;· simpa
 split;· simpa
 split;· simpa
 split;· simpa
 split;· simpa
 simpa
theorem Ct (l:List UInt8) (v:Nat):l.foldl (fun n b=>n * 256+b.toNat) v=v * 256 ^ l.length+ev l:=by
 induction l generalizing v with
 | nil=>simp [ev]
 | cons b l ih =>
  unfold ev
  rw [List.foldl_cons,List.foldl_cons,ih,ih (0 * 256+b.toNat),List.length_cons,Nat.pow_succ]
  simp only [Nat.zero_mul,Nat.zero_add,Nat.add_mul]
  rw [Nat.mul_assoc,Nat.mul_comm 256 (256 ^ l.length)]
  omega
theorem tu (b:UInt8) (l:List UInt8):ev (b :: l)=b.toNat * 256 ^ l.length+ev l:=by
 rw [show ev (b :: l)=l.foldl (fun n b=>n * 256+b.toNat) (0 * 256+b.toNat) from rfl,Ct];simp
theorem ev_snoc (l:List UInt8) (b:UInt8):ev (l++[b])=ev l * 256+b.toNat:=by simp [ev]
theorem ev_lt (l:List UInt8):ev l<256 ^ l.length:=by
 induction l with
 | nil=>simp [ev]
 | cons b l ih =>
  rw [tu,List.length_cons,Nat.pow_succ]
  have h:b.toNat<256:=b.toNat_lt
  have h2:b.toNat * 256 ^ l.length≤255 * 256 ^ l.length:=Nat.mul_le_mul_right _ (by omega)
  omega
theorem iL {l:List UInt8} (h:l.length≤8):val l=ev l:=by
 have h1:=ev_lt l
 have h2:256 ^ l.length≤256 ^ 8:=Nat.pow_le_pow_right (by omega) h
 have h3:(256:Nat) ^ 8=18446744073709551616:=by decide
 exact Nat.mod_eq_of_lt (by omega)
theorem Eb (l:List UInt8):val l<18446744073709551616:=Nat.mod_lt _ (by omega)
theorem uG:val []=0:=rfl
theorem val_one (b:UInt8):val [b]=b.toNat:=by
 rw [iL (by simp)];simp [ev]
theorem wQ (l:List UInt8) (b:UInt8):val (l++[b])=(val l * 256+b.toNat) % 18446744073709551616:=by
 unfold val
 rw [ev_snoc]
 omega
theorem fix_mod (n m k:Nat):fix (n+m * 256 ^ k) k=fix n k:=by
 induction k generalizing m with
 | zero=>rfl
 | succ k ih =>
  have e:n+m * 256 ^ (k+1)=n+(m * 256) * 256 ^ k:=by rw [Nat.pow_succ,Nat.mul_assoc,Nat.mul_comm 256]
  unfold fix
  rw [e,ih]
  congr 1
  unfold iP
  rw [Nat.add_mul_div_right _ _ (Nat.pow_pos (by omega))]
  congr 1
  omega
theorem Cq (l:List UInt8):fix (ev l) l.length=l:=by
 induction l with
 | nil=>rfl
 | cons b l ih =>
  rw [List.length_cons,tu,fix,Nat.add_comm (b.toNat * _),fix_mod,ih]
  congr 1
  unfold iP
  rw [Nat.add_mul_div_right _ _ (Nat.pow_pos (by omega)),Nat.div_eq_of_lt (ev_lt l),Nat.zero_add,Nat.mod_eq_of_lt b.toNat_lt]
  simp
theorem ev_fix (n k:Nat):ev (fix n k)=n % 256 ^ k:=by
 induction k with
 | zero=>simp [fix,ev,Nat.mod_one]
 | succ k ih =>
  rw [fix,tu,ih,aC,fq,Nat.pow_succ,Nat.mod_mul,Nat.mul_comm (n / 256 ^ k % 256),Nat.add_comm]
theorem rR {n k:Nat} (h:n<256 ^ k):ev (fix n k)=n:=by rw [ev_fix,Nat.mod_eq_of_lt h]
end Cd
end
section
open Go.ChangeShapes Go.WideShapes Go.ChangeAt Go.RowKit
section
variable {H : Type} {enc : TypeId × Value → H} {P : Program}
theorem vR {f:Func} {s:ChangeSpec} {apart fresh handsOn again:Bool} {W W':World} {args:Array Value} {v:Value} {ds gs:List (DataW H)} {before pa pv:List MemPlace}
  (whole:DataW.Whole enc P f.params.toList s.vars apart W args.toList ds gs before) (same:before=pa++pv) (old:Below W.heap.size W W')
  (res:∀ (b:Nat) (sp:Nat→Bool) (hd:Bool),DataW.TrodAll enc P W' b sp hd f.resultTypes.toList (v.resultList f.resultTypes.size) (s.fn H (ds++gs)).results [])
  (arg:∀ sp:Nat→Bool,(∀ p∈before,sp p.block=true)→DataW.TrodAll enc P W' 0 sp true f.params.toList args.toList (s.fn H (ds++gs)).args pa)
  (var:∀ sp:Nat→Bool,(∀ p∈before,sp p.block=true)→DataW.TrodVars enc P W' sp s.vars (s.fn H (ds++gs)).vars pv)
  (outer:∀ (j:Nat) (t:TypeId) (r:Value),f.resultTypes[j]?=some t→(v.resultList f.resultTypes.size)[j]?=some r→Value.okWide P W' .any 0 t r) :
  s.post enc P f apart fresh handsOn again W args v W':=by
 have lower:∀ p∈before,p.block<W.heap.size:=fun p m=>whole.lt p m
 have marked:∀ p∈before,(fun b=>decide (b<W.heap.size)) p.block=true:=fun p m=>decide_eq_true (lower p m)
 have every:∀ p∈before,(fun _:Nat=>true) p.block=true:=fun _ _=>rfl
 have kept:W.keptBut W' (fun p=>p∈before∧(p∈([]:List MemPlace)++pa∨p∈pv)):=old.frame _
 obtain⟨_,_,_,_,_,frz,sep⟩:=id whole
 refine⟨ds,gs,before,[],pa,pv,whole,res _ _ _,arg _ marked,var _ marked,World.keptBut_mono (fun p m=>⟨m.1,?_⟩) kept,fun _=>?_⟩
 ·have h:=m.1
  rw [same,List.mem_append] at h
  exact Or.inr h
 ·refine⟨outer,_,_,([]++pa)++pv,⟨[]++pa,pv,trodAll_append (arg _ every) (res _ _ _),var _ every,rfl,?_,?_⟩,?_⟩
  ·intro b off m
   have h:MemPlace.cell b off∈before:=by rw [same];simpa using m
   rw [old.frozen (lower _ h)]
   exact frz b off h
  ·intro yes
   have h:=sep yes
   rw [same] at h
   simpa using h
  ·intro p m _
   rw [same]
   simpa using m
end
end
end
end Go.Proofs.YtmcfknnfaokmlaaGreat
