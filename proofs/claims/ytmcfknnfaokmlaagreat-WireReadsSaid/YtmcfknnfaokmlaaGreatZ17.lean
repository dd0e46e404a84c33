import Derived.Test.YtmcfknnfaokmlaaGreatZ13
import Derived.Test.YtmcfknnfaokmlaaGreatZ16
namespace Go.Proofs.YtmcfknnfaokmlaaGreat
set_option maxHeartbeats 16000000
set_option linter.unusedSimpArgs false
set_option maxRecDepth 100000
section
section
namespace T9
structure Mu where
 kind:Int
 id:Nat
 list:Nat
 text:List UInt8
 f:Nat
 flag:Bool
def Mu.ok (m:Mu):Prop:=m.id<18446744073709551616∧m.list<18446744073709551616∧m.f<18446744073709551616
def nId (k:Int):Bool:=decide (1≤k∧k≤11)
def kG (k:Int):Bool:=decide (k=3∨k=6∨k=12∨k=13)
def kH (k:Int):Bool:=decide (k=1∨k=3∨k=4∨k=9∨k=10)
def nF (k:Int):Bool:=decide (k=3∨k=6∨k=7∨k=8)
def pQ (k:Int):Bool:=decide (k=5)
def ofL (k:Int):Bool:=decide (k=1∨k=2)
def pR (k:Int):Bool:=decide (k=9∨k=10)
def extra (m:Mu):Bool:=!jr m.f || !nId m.kind && !(m.id==0) || !kG m.kind && !(m.list==0) || !kH m.kind && !decide (m.text=[]) || !pQ m.kind && m.flag || !nF m.kind && !Fl.kC m.f 0
def aU (m:Mu):Int :=
 if ¬ (1≤m.kind∧m.kind≤13) then 110 else
 if extra m=true then 110 else
 if (kG m.kind && m.list==0 || ofL m.kind && m.id==0)=true then 91 else
 if (nId m.kind && m.id==0)=true then 93 else
 if (pR m.kind && !tag m.text || !pR m.kind && kH m.kind && !title m.text)=true then 94 else
 if (nF m.kind && Fl.bK m.f && !decide (m.kind=8))=true then 100 else 0
theorem xS {ls:List Li} {a:Nat}:aR a ls=0↔(∀ l∈ls,a<l.id∧title l.name=true)∧Sr.Str ltL ls:=by
 induction ls generalizing a with
 | nil=>simp [aR,Sr.Str]
 | cons l r ih =>
  unfold aR
  by_cases h1:l.id≤a
  ·rw [if_pos h1]
   refine⟨fun h=>(by cases h),fun h=>?_⟩
   have:=(h.1 l List.mem_cons_self).1
   omega
  rw [if_neg h1]
  by_cases h2:title l.name=false
  ·rw [if_pos h2]
   refine⟨fun h=>(by cases h),fun h=>?_⟩
   have:=(h.1 l List.mem_cons_self).2
   rw [h2] at this;cases this
  rw [if_neg h2,ih]
  have h2':title l.name=true:=by simpa using h2
  unfold Sr.Str
  rw [List.pairwise_cons]
  constructor
  ·rintro⟨q1,q2⟩
   refine⟨fun x hx=>?_,fun x hx=>decide_eq_true (q1 x hx).1,q2⟩
   rcases List.mem_cons.1 hx with rfl | hx
   ·exact⟨by omega,h2'⟩
   ·have:=q1 x hx;exact⟨by omega,this.2⟩
  ·rintro⟨q1,q2,q3⟩
   exact⟨fun x hx=>⟨of_decide_eq_true (q2 x hx),(q1 x (List.mem_cons_of_mem _ hx)).2⟩,q3⟩
theorem yu {ls:List Li} {ts:List Tk} {a:Nat}:aV ls a ts=0↔(∀ t∈ts,a<t.id∧aB t=0∧(ls.any fun l=>l.id==t.list)=true)∧Sr.Str ltK ts:=by
 refine⟨fun h=>⟨(nG h).1,str_ltK (nG h).2⟩,?_⟩
 induction ts generalizing a with
 | nil=>intro _;rfl
 | cons t r ih =>
  rintro⟨h1,h2⟩
  have h:=h1 t List.mem_cons_self
  have p:=List.pairwise_cons.1 h2
  unfold aV
  rw [if_neg (by omega),if_neg (by rw [h.2.2];decide),if_neg (fun q=>q h.2.1)]
  exact ih ⟨fun x hx=>⟨of_decide_eq_true (p.1 x hx),(h1 x (List.mem_cons_of_mem _ hx)).2⟩,p.2⟩
end T9
namespace Sr
section
variable {α : Type} {lt : α → α → Bool}
end
end Sr
namespace T9
end T9
end
section
namespace T9
theorem jT {c:Prop} [Decidable c] {a b:Int} (ha:a≠0) (h:(if c then a else b)=0):¬ c∧b=0:=by
 by_cases q:c
 ·rw [if_pos q] at h;exact absurd h ha
 ·rw [if_neg q] at h;exact⟨q,h⟩
theorem gK {m:Mu} (h:aU m=0):(1≤m.kind∧m.kind≤13)∧jr m.f=true∧(kG m.kind=true→m.list≠0)∧(nId m.kind=true→m.id≠0)∧(pR m.kind=true→tag m.text=true)∧(pR m.kind=false→kH m.kind=true→title m.text=true)∧(nF m.kind=true→m.kind≠8→Fl.bK m.f=false)∧(kG m.kind=false→m.list=0):=by
 unfold aU at h
 obtain⟨h1,h⟩:=jT (by decide) h
 obtain⟨h2,h⟩:=jT (by decide) h
 obtain⟨h3,h⟩:=jT (by decide) h
 obtain⟨h4,h⟩:=jT (by decide) h
 obtain⟨h5,h⟩:=jT (by decide) h
 obtain⟨h6,h⟩:=jT (by decide) h
 unfold extra at h2
 simp only [Bool.not_eq_true,Bool.or_eq_false_iff,Bool.and_eq_false_iff,Bool.not_eq_false',beq_eq_false_iff_ne,Decidable.not_not,beq_iff_eq,decide_eq_true_eq] at h1 h2 h3 h4 h5 h6
 refine⟨h1,h2.1.1.1.1.1,fun q=>?_,fun q=>?_,fun q=>?_,fun q r=>?_,fun q r=>?_,fun q=>?_⟩
 ·rcases h3.1 with k | k
  ·rw [k] at q;cases q
  ·exact k
 ·rcases h4 with k | k
  ·rw [k] at q;cases q
  ·exact k
 ·rcases h5.1 with k | k
  ·rw [k] at q;cases q
  ·exact k
 ·rcases h5.2 with (k | k) | k
  ·rw [q] at k;cases k
  ·rw [k] at r;cases r
  ·exact k
 ·rcases h6 with (k | k) | k
  ·rw [k] at q;cases q
  ·exact k
  ·exact absurd k r
 ·rcases h2.1.1.1.2 with k | k
  ·rw [q] at k;cases k
  ·exact k
theorem qD:∀ {l:List (List UInt8)} {a:List UInt8},bH a l=true→∀ x∈l,tag x=true
 | [],_,_=>by simp
 | t :: l,a,h=>by
  unfold bH at h
  rw [Bool.and_eq_true,Bool.and_eq_true] at h
  intro x hx
  rcases List.mem_cons.1 hx with rfl | hx
  ·exact h.1.1
  ·exact qD h.2 x hx
end T9
end
end
end Go.Proofs.YtmcfknnfaokmlaaGreat
