import Derived.Test.YtmomffminkflnaaGreatDoorChecked
import Derived.WalkKit
import Derived.WalkLawsBesides
import Derived.WalkSpells
import Derived.Deep.LoopGhost
import Derived.Outline
import Derived.BigQuiet
import Derived.Deep.QuietTactic
import Derived.Deep.RegionWith
import Derived.BigCall
import Derived.Test.YtmomffminkflnaaGreatDoorRRkModel
set_option maxRecDepth 100000
set_option maxHeartbeats 32000000
namespace Go.Proofs
open Go.RowKit
inductive Tm where
 |mk(op num:Int)(ks:List Tm)
namespace Tm
def op:Tm->Int|mk o _ _=>o
def num:Tm->Int|mk _ n _=>n
def ks:Tm->List Tm|mk _ _ k=>k
mutual
def size:Tm->Nat|mk _ _ ks=>sizes ks+1
def sizes:List Tm->Nat| []=>0|k::r=>size k+sizes r
end
mutual
def depth:Tm->Nat|mk _ _ ks=>depths ks+1
def depths:List Tm->Nat| []=>0|k::r=>max(depth k)(depths r)
end
def kidsOf(op:Int):Nat:=if op<3 then 0 else if op<5 then 1 else 2
def mostOf(op:Int):Int:=if op=1 then 1099511627776 else if op=2 then 3 else 0
def isOf(op:Int):Int:=if op=4∨10<=op then 2 else 1
def askedOf(op:Int):Int:=if op<3 then 0 else if op=4∨13<=op then 2 else 1
def formedB(op n:Int)(len:Nat):Bool:=decide(1<=op/\op<=14/\len=kidsOf op/\0<=n/\n<=mostOf op)
mutual
def allForm:Tm->Bool|mk op n ks=>formedB op n ks.length&&allForms ks
def allForms:List Tm->Bool| []=>true|k::r=>allForm k&&allForms r
end
mutual
def typedB:Tm->Bool|mk op _ ks=>typeds op ks
def typeds(o:Int):List Tm->Bool| []=>true|k::r=>(isOf k.op==askedOf o)&&typedB k&&typeds o r
end
def checkR(T:Tm):Int×Int:=if 24<T.depth then(0,2)else if T.allForm=false then(0,4)else if T.typedB=false then(0,30)else(isOf T.op,0)
theorem sizes_snoc(l:List Tm)(a:Tm):sizes(l++ [a])=sizes l+a.size:=by
 induction l with
 |nil=>simp [sizes]
 |cons k r ih=>simp only [List.cons_append,sizes,ih];omega
theorem depths_snoc(l:List Tm)(a:Tm):depths(l++ [a])=max(depths l)a.depth:=by
 induction l with
 |nil=>simp [depths]
 |cons k r ih=>simp only [List.cons_append,depths,ih];omega
theorem allForms_snoc(l:List Tm)(a:Tm):allForms(l++ [a])=(allForms l&&a.allForm):=by
 induction l with
 |nil=>simp [allForms]
 |cons k r ih=>simp only [List.cons_append,allForms,ih,Bool.and_assoc]
theorem typeds_snoc(o:Int)(l:List Tm)(a:Tm):typeds o(l++ [a])=(typeds o l&&((isOf a.op==askedOf o)&&a.typedB)):=by
 induction l with
 |nil=>simp [typeds]
 |cons k r ih=>simp only [List.cons_append,typeds,ih,Bool.and_assoc]
theorem take_snoc {α:Type} (l:List α)(k:Nat)(h:k<l.length):l.take(k+1)=l.take k++ [l[k]]:=by
 rw [List.take_succ_eq_append_getElem h]
theorem sizes_take(l:List Tm)(k:Nat)(h:k<l.length):sizes(l.take(k+1))=sizes(l.take k)+l[k].size:=by rw [take_snoc l k h,sizes_snoc]
theorem depths_take(l:List Tm)(k:Nat)(h:k<l.length):depths(l.take(k+1))=max(depths(l.take k))l[k].depth:=by rw [take_snoc l k h,depths_snoc]
theorem allForms_take(l:List Tm)(k:Nat)(h:k<l.length):allForms(l.take(k+1))=(allForms(l.take k)&&l[k].allForm):=by rw [take_snoc l k h,allForms_snoc]
theorem typeds_take(o:Int)(l:List Tm)(k:Nat)(h:k<l.length):typeds o(l.take(k+1))=(typeds o(l.take k)&&((isOf l[k].op==askedOf o)&&l[k].typedB)):=by rw [take_snoc l k h,typeds_snoc]
theorem sizes_le(l:List Tm): ∀k,sizes(l.take k)<=sizes l:=by
 induction l with
 |nil=>simp [sizes]
 |cons a r ih=>
  intro k
  cases k with
  |zero=>simp [sizes]
  |succ k=>simp only [List.take_succ_cons,sizes];have:=ih k;omega
theorem depths_get(l:List Tm): ∀k(h:k<l.length),l[k].depth<=depths l:=by
 induction l with
 |nil=>intro k h;simp at h
 |cons a r ih=>
  intro k h
  cases k with
  |zero=>simp only [List.getElem_cons_zero,depths];omega
  |succ k=>simp only [List.getElem_cons_succ,depths];have:=ih k(by simpa using h);omega
theorem allForms_get(l:List Tm)(hl:allForms l=true): ∀k(h:k<l.length),l[k].allForm=true:=by
 induction l with
 |nil=>intro k h;simp at h
 |cons a r ih=>
  simp only [allForms,Bool.and_eq_true]at hl;intro k h
  cases k with
  |zero=>simpa using hl.1
  |succ k=>simpa using ih hl.2 k(by simpa using h)
theorem typeds_get(o:Int)(l:List Tm)(hl:typeds o l=true): ∀k(h:k<l.length),isOf l[k].op=askedOf o/\l[k].typedB=true:=by
 induction l with
 |nil=>intro k h;simp at h
 |cons a r ih=>
  simp only [typeds,Bool.and_eq_true,beq_iff_eq]at hl;intro k h
  cases k with
  |zero=>simpa using hl.1
  |succ k=>simpa using ih hl.2 k(by simpa using h)
theorem size_pos(T:Tm):1<=T.size:=by cases T;simp [size]
theorem sizes_get(l:List Tm)(k:Nat)(h:k<l.length):sizes(l.take k)+l[k].size<=sizes l:=by rw [<-sizes_take l k h];exact sizes_le _ _
theorem length_le_sizes(l:List Tm):l.length<=sizes l:=by
 induction l with
 |nil=>simp [sizes]
 |cons a r ih=>have:=size_pos a;simp only [List.length_cons,sizes];omega
theorem formed_of_all {T:Tm} (h:T.allForm=true):formedB T.op T.num T.ks.length=true/\allForms T.ks=true:=by
 cases T;simpa [allForm,op,num,ks]using h
mutual
theorem depth_le_size: ∀T:Tm,T.depth<=T.size
 |mk _ _ ks=>by simp only [depth,size];have:=depths_le_sizes ks;omega
theorem depths_le_sizes: ∀l:List Tm,depths l<=sizes l
 | []=>by simp [depths,sizes]
 |k::r=>by simp only [depths,sizes];have:=depth_le_size k;have:=depths_le_sizes r;omega
end
theorem size_eq(T:Tm):T.size=sizes T.ks+1:=by cases T;rfl
theorem depth_eq(T:Tm):T.depth=depths T.ks+1:=by cases T;rfl
theorem allForm_eq(T:Tm):T.allForm=(formedB T.op T.num T.ks.length&&allForms T.ks):=by cases T;rfl
theorem typedB_eq(T:Tm):T.typedB=typeds T.op T.ks:=by cases T;rfl
def Lies(w:World)(B:Nat):Nat->Value->Tm->Prop
 |0,_,_=>False
 |d+1,v,T=> ∃a cap,v= .slice a T.ks.length cap/\(T.ks= []∨ ∃g off,a=some⟨g,off,none⟩/\g<B/\
  ∀j(h:j<T.ks.length),∃u,w.cell? ⟨g,off+j*3,none⟩=some(.int .i64 T.ks[j].op)/\w.cell? ⟨g,off+j*3+1,none⟩=some(.int .i64 T.ks[j].num)/\
   w.cell? ⟨g,off+j*3+2,none⟩=some u/\Lies w B d u T.ks[j])
theorem Lies.keep {w w':World} {B:Nat} (hk: ∀k,k<B->w'.heap[k]? =w.heap[k]?): ∀ {d:Nat} {v:Value} {T:Tm},Lies w B d v T->Lies w' B d v T
 |0,_,_,h=>h.elim
 |d+1,v,T,h=>by
  obtain⟨a,cap,hv,h⟩:=h;refine⟨a,cap,hv,h.elim .inl fun⟨g,off,ha,hg,hr⟩=> .inr⟨g,off,ha,hg,λj hj=> ?_⟩⟩;obtain⟨u,h0,h1,h2,h3⟩:=hr j hj;have hc: ∀o,w'.cell? ⟨g,o,none⟩=w.cell? ⟨g,o,none⟩:=λo=>World.cell?_of_block(w:=w)(hk g hg);exact⟨u,by rw [hc];exact h0,by rw [hc];exact h1,by rw [hc];exact h2,Lies.keep hk h3⟩
theorem Lies.below {w w':World} {B:Nat} (hb:Below B w w') {d:Nat} {v:Value} {T:Tm} (h:Lies w B d v T):Lies w' B d v T:=h.keep hb.block
theorem Lies.wider {w:World} {B B':Nat} (hB:B<=B'): ∀ {d:Nat} {v:Value} {T:Tm},Lies w B d v T->Lies w B' d v T
 |0,_,_,h=>h.elim
 |d+1,v,T,h=>by
  obtain⟨a,cap,hv,h⟩:=h;refine⟨a,cap,hv,h.elim .inl fun⟨g,off,ha,hg,hr⟩=> .inr⟨g,off,ha,by omega,λj hj=> ?_⟩⟩;obtain⟨u,h0,h1,h2,h3⟩:=hr j hj;exact⟨u,h0,h1,h2,Lies.wider hB h3⟩
theorem Lies.shape {w:World} {B d:Nat} {v:Value} {T:Tm} (h:Lies w B d v T): ∃a cap,v= .slice a T.ks.length cap:=by
 cases d with
 |zero=>exact h.elim
 |succ d=>obtain⟨a,cap,hv,_⟩:=h;exact⟨a,cap,hv⟩
theorem Lies.kid {w:World} {B d:Nat} {a:Option Addr} {n cap:Nat} {T:Tm} (h:Lies w B(d+1)(.slice a n cap)T)(j:Nat)(hj:j<T.ks.length):
  ∃g off u,a=some⟨g,off,none⟩/\g<B/\w.cell? ⟨g,off+j*3,none⟩=some(.int .i64 T.ks[j].op)/\w.cell? ⟨g,off+j*3+1,none⟩=some(.int .i64 T.ks[j].num)/\
   w.cell? ⟨g,off+j*3+2,none⟩=some u/\Lies w B d u T.ks[j]:=by
 obtain⟨a',cap',hv,h⟩:=h;obtain⟨rfl,_,_⟩:=Value.slice.inj hv
 rcases h with h|⟨g,off,ha,hg,hr⟩
 ·rw [h]at hj;simp at hj
 obtain⟨u,h0,h1,h2,h3⟩:=hr j hj;exact⟨g,off,u,ha,hg,h0,h1,h2,h3⟩
end Tm
structure Tk.But(E:Nat->Prop)(w w':World):Prop where
 os:w'.os=w.os
 tape:w'.tape=w.tape
 output:w'.output=w.output
 size:w.heap.size<=w'.heap.size
 block: ∀k,k<w.heap.size-> ¬E k->w'.heap[k]? =w.heap[k]?
theorem Tk.But.refl(E:Nat->Prop)(w:World):Tk.But E w w:=⟨rfl,rfl,rfl,Nat.le_refl _,λ_ _ _=>rfl⟩
theorem Tk.But.trans {E:Nat->Prop} {a b c:World} (h:Tk.But E a b)(k:Tk.But E b c):Tk.But E a c:=
 ⟨k.os.trans h.os,k.tape.trans h.tape,k.output.trans h.output,Nat.le_trans h.size k.size,λi hi he=>(k.block i(Nat.lt_of_lt_of_le hi h.size)he).trans(h.block i hi he)⟩
theorem Tk.But.of_below {E:Nat->Prop} {w w':World} (h:Below w.heap.size w w'):Tk.But E w w':=⟨h.os,h.tape,h.output,h.size,λk hk _=>h.block k hk⟩
theorem Tk.But.below {E:Nat->Prop} {w w':World} {B:Nat} (h:Tk.But E w w')(hB:B<=w.heap.size)(hE: ∀k,k<B-> ¬E k):Below B w w':=⟨h.os,h.tape,h.output,h.size,λk hk=>h.block k(by omega)(hE k hk)⟩
theorem Tk.But.alloc {E:Nat->Prop} {a w:World} (h:Tk.But E a w)(o:Obj):Tk.But E a(w.alloc o):=h.trans⟨rfl,rfl,rfl,by simp,λk hk _=>Below.heap_alloc _ _ _ hk⟩
theorem Tk.But.setCell {E:Nat->Prop} {a w:World} (h:Tk.But E a w) {p:Addr} (hp:E p.block)(u:Value):Tk.But E a(w.setCell p u):=
 h.trans⟨rfl,rfl,rfl,by simp [World.setCell],λk _ he=>Below.heap_setCell _ _ _ _(λe=>he(e▸hp))⟩
theorem Tk.But.drewN {E:Nat->Prop} {a w:World} (h:Tk.But E a w)(n:Nat):Tk.But E a(w.drewN n):=⟨h.os,h.tape,h.output,h.size,h.block⟩
theorem Tk.below_drewN {B:Nat} {a w:World} (h:Below B a w)(n:Nat):Below B a(w.drewN n):=⟨h.os,h.tape,h.output,h.size,h.block⟩
theorem Tk.ret_bool {a b:Bool} (h:a=b):Ending.returned(.bool a)= .returned(.bool b):=by rw [h]
theorem Tk.row3 {W:World} {q:Nat} {x y z:Value} {T:TypeId} (h:W.heap[q]? =some(.cells #[x,y,z]T(0,0))):
  (W.cell? ⟨q,0,none⟩=some x/\W.cell? ⟨q,1,none⟩=some y/\W.cell? ⟨q,2,none⟩=some z)/\(W.frozen? ⟨q,0,none⟩=false/\W.frozen? ⟨q,1,none⟩=false/\W.frozen? ⟨q,2,none⟩=false):=by
 simp [World.cell?,World.frozen?,h]
theorem Tm.eq_iff(S T:Tm):S=T↔S.op=T.op/\S.num=T.num/\S.ks=T.ks:=by
 cases S;cases T
 simp only [Tm.mk.injEq,Tm.op,Tm.num,Tm.ks]
structure Nd where
 kind:Int
 a:Int
 t:Tm
structure Fl where
 fr:Int
 to:Int
 els:Bool
 c:Tm
namespace Nt
def zeroB(T:Tm):Bool:=decide(T.op=0)&&decide(T.num=0)&&decide(T.ks.length=0)
def ofB(T:Tm)(k:Int):Bool:=decide(T.checkR.2=0)&&decide(T.checkR.1=k)
def mostN(k:Int):Int:=if k=3∨k=4 then 3 else if k=8 then 4 else 0
def oneB(x:Nd):Bool:=decide(1<=x.kind/\x.kind<=8/\0<=x.a/\x.a<=mostN x.kind)&&(if x.kind=4 then ofB x.t 1 else zeroB x.t)
def isNodeB(n:Nat)(i:Int):Bool:=decide(0<=i)&&decide(i<n)
def kindAt(ns:List Nd)(i:Nat):Int:=(ns[i]?.map Nd.kind).getD 0
def outsN(fs:List Fl)(i:Int):Nat:=fs.countP λf=>decide(f.fr=i)
def insN(fs:List Fl)(i:Int):Nat:=fs.countP λf=>decide(f.to=i)
def elsesN(fs:List Fl)(i:Int):Nat:=fs.countP λf=>decide(f.fr=i)&&f.els
def othersN(ns:List Nd)(fs:List Fl)(i:Int):Nat:=fs.countP λf=>decide(f.fr=i)&& !decide(kindAt ns f.to.toNat=8)
def outsL(fs:List Fl)(i:Int):List Nat:=(List.range fs.length).filter λk=>decide((fs[k]?.map Fl.fr)=some i)
def insL(fs:List Fl)(i:Int):List Nat:=(List.range fs.length).filter λk=>decide((fs[k]?.map Fl.to)=some i)
def chosenB(ns:List Nd)(fs:List Fl)(f:Fl):Bool:=decide(kindAt ns f.fr.toNat=5)&&decide(2<=outsN fs f.fr)
def condB(f:Fl)(ch:Bool):Bool:=if ch=true/\f.els=false then ofB f.c 2 else(ch==f.els)&&zeroB f.c
def twoB(ns:List Nd)(fs:List Fl)(f:Fl):Bool:=isNodeB ns.length f.fr&&isNodeB ns.length f.to&& !decide(f.fr=f.to)&&condB f(chosenB ns fs f)
def joinB(k:Int)(a b el ot:Nat):Bool:=
 if k=1 then decide(a=0/\b=1)else if k=2 then decide(a=1/\b=0)else if k=5 then decide((a=1/\2<=b/\el=1)∨(2<=a/\b=1))
 else if k=6 then decide((a=1/\2<=b)∨(2<=a/\b=1))else if k=7 then decide(a=1/\2<=b/\ot=0)else decide(a=1/\b=1)
def threeB(ns:List Nd)(fs:List Fl)(i:Nat):Bool:=joinB(kindAt ns i)(insN fs i)(outsN fs i)(elsesN fs i)(othersN ns fs i)
def firstI(ns:List Nd)(k:Int):Int:=match ns.findIdx? (λx=>decide(x.kind=k))with
 |some i=>(i:Int)
 |none=> -1
def jointB(ns:List Nd)(fs:List Fl)(i:Nat):Bool:=threeB ns fs i&& !(decide(kindAt ns i=1)&& !decide((i:Int)=firstI ns 1))&& !(decide(kindAt ns i=2)&& !decide((i:Int)=firstI ns 2))
def edges(fs:List Fl):List(Nat×Nat):=fs.map λf=>(f.fr.toNat,f.to.toNat)
noncomputable def roadB(ns:List Nd)(fs:List Fl)(i:Nat):Bool:=Rk.met(edges fs)(firstI ns 1).toNat i&&Rk.met(edges fs)i(firstI ns 2).toNat
def hugeB(ns:List Nd)(fs:List Fl):Bool:=decide(24<ns.length)||decide(40<fs.length)
def wrong1(ns:List Nd)(fs:List Fl):List Nat:=if hugeB ns fs=true then [0]else(List.range ns.length).filter λi=> !((ns[i]?.map oneB).getD true)
def wrong2(ns:List Nd)(fs:List Fl):List Nat:=(List.range fs.length).filter λi=> !((fs[i]?.map(twoB ns fs)).getD true)
def lostB(ns:List Nd):Bool:=decide(firstI ns 1<0)||decide(firstI ns 2<0)
def wrong3(ns:List Nd)(fs:List Fl):List Nat:=((List.range ns.length).filter λi=> !jointB ns fs i)++if lostB ns=true then [ns.length]else []
noncomputable def wrong4(ns:List Nd)(fs:List Fl):List Nat:=(List.range ns.length).filter λi=> !roadB ns fs i
noncomputable def broken(ns:List Nd)(fs:List Fl):Nat×List Nat:=
 if(wrong1 ns fs).isEmpty=false then(1,wrong1 ns fs)else if(wrong2 ns fs).isEmpty=false then(2,wrong2 ns fs)else if(wrong3 ns fs).isEmpty=false then(3,wrong3 ns fs)
 else if(wrong4 ns fs).isEmpty=false then(4,wrong4 ns fs)else(0, [])
noncomputable def checkN(ns:List Nd)(fs:List Fl):Nat×Nat:=((broken ns fs).1,(broken ns fs).2.headD 0)
theorem filter_take {α:Type} (p:α->Bool)(l:List α): ∀k,k<=l.length->((List.range k).filter λj=>((l[j]?.map p).getD false)).length=(l.take k).countP p:=by
 intro k
 induction k with
 |zero=>simp
 |succ k ih=>
  intro hk;rw [List.range_succ,List.filter_append,List.length_append,ih(by omega),Tm.take_snoc l k(by omega),List.countP_append]
  congr 1
  have hk':k<l.length:=by omega
  cases hp:p l[k]<;>simp [hk',hp]
theorem filter_len {α:Type} (p:α->Bool)(l:List α):((List.range l.length).filter λk=>((l[k]?.map p).getD false)).length=l.countP p:=by
 rw [filter_take p l l.length(Nat.le_refl _),List.take_length]
theorem outsL_eq(fs:List Fl)(i:Int):outsL fs i=(List.range fs.length).filter λk=>((fs[k]?.map λf=>decide(f.fr=i)).getD false):=by
 refine List.filter_congr λk hk=> ?_;rw [List.getElem?_eq_getElem(List.mem_range.1 hk)]
 simp
theorem insL_eq(fs:List Fl)(i:Int):insL fs i=(List.range fs.length).filter λk=>((fs[k]?.map λf=>decide(f.to=i)).getD false):=by
 refine List.filter_congr λk hk=> ?_;rw [List.getElem?_eq_getElem(List.mem_range.1 hk)]
 simp
theorem outsL_len(fs:List Fl)(i:Int):(outsL fs i).length=outsN fs i:=by rw [outsL_eq,filter_len];rfl
theorem insL_len(fs:List Fl)(i:Int):(insL fs i).length=insN fs i:=by rw [insL_eq,filter_len];rfl
theorem kindAt_get(ns:List Nd)(i:Nat)(h:i<ns.length):kindAt ns i=ns[i].kind:=by simp [kindAt,List.getElem?_eq_getElem h]
theorem filter_nil {n:Nat} {p:Nat->Bool} (h:((List.range n).filter p).isEmpty=true): ∀i,i<n->p i=false:=by
 intro i hi;rw [List.isEmpty_iff,List.filter_eq_nil_iff]at h;simpa using h i(List.mem_range.2 hi)
theorem one_keeps {ns:List Nd} {fs:List Fl} (h:(wrong1 ns fs).isEmpty=true):ns.length<=24/\fs.length<=40:=by
 unfold wrong1 at h
 split at h
 ·simp at h
 next hh=>simpa [hugeB,Nat.not_lt]using hh
theorem two_keeps {ns:List Nd} {fs:List Fl} (h:(wrong2 ns fs).isEmpty=true): ∀f,f∈fs->0<=f.fr/\f.fr<ns.length/\0<=f.to/\f.to<ns.length/\twoB ns fs f=true:=by
 intro f hf;obtain⟨i,hi,rfl⟩:=List.mem_iff_getElem.1 hf;have:=filter_nil h i hi;rw [List.getElem?_eq_getElem hi]at this;have h2:twoB ns fs fs[i]=true:=by simpa using this
 refine⟨?_, ?_, ?_, ?_,h2⟩<;>simp [twoB,isNodeB]at h2<;>omega
theorem three_keeps {ns:List Nd} {fs:List Fl} (h:(wrong3 ns fs).isEmpty=true):0<=firstI ns 1/\0<=firstI ns 2:=by
 unfold wrong3 at h
 split at h
 ·simp at h
 next hh=>simp [lostB]at hh;exact hh
theorem firstI_lt(ns:List Nd)(k:Int):firstI ns k<ns.length:=by
 unfold firstI
 split
 ·next i h=>
  have:=(List.findIdx?_eq_some_iff_getElem.1 h).1;omega
 omega
def Nds(w:World)(B d:Nat)(a:Option Addr)(ns:List Nd):Prop:= ∀j(h:j<ns.length),∃g off u,a=some⟨g,off,none⟩/\g<B/\w.cell? ⟨g,off+j*5,none⟩=some(.int .i64 ns[j].kind)/\w.cell? ⟨g,off+j*5+1,none⟩=some(.int .i64 ns[j].a)/\
 w.cell? ⟨g,off+j*5+2,none⟩=some(.int .i64 ns[j].t.op)/\w.cell? ⟨g,off+j*5+3,none⟩=some(.int .i64 ns[j].t.num)/\w.cell? ⟨g,off+j*5+4,none⟩=some u/\Tm.Lies w B d u ns[j].t
def Fls(w:World)(B d:Nat)(a:Option Addr)(fs:List Fl):Prop:= ∀j(h:j<fs.length),∃g off u,a=some⟨g,off,none⟩/\g<B/\w.cell? ⟨g,off+j*6,none⟩=some(.int .i64 fs[j].fr)/\w.cell? ⟨g,off+j*6+1,none⟩=some(.int .i64 fs[j].to)/\
 w.cell? ⟨g,off+j*6+2,none⟩=some(.bool fs[j].els)/\w.cell? ⟨g,off+j*6+3,none⟩=some(.int .i64 fs[j].c.op)/\w.cell? ⟨g,off+j*6+4,none⟩=some(.int .i64 fs[j].c.num)/\w.cell? ⟨g,off+j*6+5,none⟩=some u/\Tm.Lies w B d u fs[j].c
theorem Nds.below {w w':World} {B d:Nat} {a:Option Addr} {ns:List Nd} (h:Nds w B d a ns)(hb:Below B w w'):Nds w' B d a ns:=λj hj=>by
 obtain⟨g,off,u,h1,h2,c0,c1,c2,c3,c4,h3⟩:=h j hj;have hc: ∀o,w'.cell? ⟨g,o,none⟩=w.cell? ⟨g,o,none⟩:=λo=>hb.cell(p:=⟨g,o,none⟩)h2;exact⟨g,off,u,h1,h2,by rw [hc];exact c0,by rw [hc];exact c1,by rw [hc];exact c2,by rw [hc];exact c3,by rw [hc];exact c4,h3.below hb⟩
theorem Fls.below {w w':World} {B d:Nat} {a:Option Addr} {fs:List Fl} (h:Fls w B d a fs)(hb:Below B w w'):Fls w' B d a fs:=λj hj=>by
 obtain⟨g,off,u,h1,h2,c0,c1,c2,c3,c4,c5,h3⟩:=h j hj;have hc: ∀o,w'.cell? ⟨g,o,none⟩=w.cell? ⟨g,o,none⟩:=λo=>hb.cell(p:=⟨g,o,none⟩)h2;exact⟨g,off,u,h1,h2,by rw [hc];exact c0,by rw [hc];exact c1,by rw [hc];exact c2,by rw [hc];exact c3,by rw [hc];exact c4,by rw [hc];exact c5,h3.below hb⟩
theorem Nds.wider {w:World} {B B' d:Nat} {a:Option Addr} {ns:List Nd} (h:Nds w B d a ns)(hB:B<=B'):Nds w B' d a ns:=λj hj=>by
 obtain⟨g,off,u,h1,h2,c0,c1,c2,c3,c4,h3⟩:=h j hj;exact⟨g,off,u,h1,by omega,c0,c1,c2,c3,c4,h3.wider hB⟩
theorem Fls.wider {w:World} {B B' d:Nat} {a:Option Addr} {fs:List Fl} (h:Fls w B d a fs)(hB:B<=B'):Fls w B' d a fs:=λj hj=>by
 obtain⟨g,off,u,h1,h2,c0,c1,c2,c3,c4,c5,h3⟩:=h j hj;exact⟨g,off,u,h1,by omega,c0,c1,c2,c3,c4,c5,h3.wider hB⟩
end Nt
structure Nt.Has(w:World)(B d:Nat)(an af:Option Addr)(ns:List Nd)(fs:List Fl):Prop where
 nds:Nt.Nds w B d an ns
 fls:Nt.Fls w B d af fs
 nlen:ns.length<=100
 flen:fs.length<=100
 nsz: ∀x,x∈ns->x.t.size<=2147483647
 fsz: ∀x,x∈fs->x.c.size<=2147483647
theorem Nt.Has.below {w w':World} {B d:Nat} {an af:Option Addr} {ns:List Nd} {fs:List Fl} (h:Nt.Has w B d an af ns fs)(hb:Below B w w'):Nt.Has w' B d an af ns fs:=⟨h.nds.below hb,h.fls.below hb,h.nlen,h.flen,h.nsz,h.fsz⟩
theorem Nt.Has.wider {w:World} {B B' d:Nat} {an af:Option Addr} {ns:List Nd} {fs:List Fl} (h:Nt.Has w B d an af ns fs)(hB:B<=B'):Nt.Has w B' d an af ns fs:=⟨h.nds.wider hB,h.fls.wider hB,h.nlen,h.flen,h.nsz,h.fsz⟩
inductive Ac where
 |mk(kind node a b:Int)(t:Tm)(cs:List Tm)(ks:List Ac)(ls:List(Int×Int))(ns:List Nd)(fs:List Fl)
namespace Ac
def kind:Ac->Int|mk k _ _ _ _ _ _ _ _ _=>k
def node:Ac->Int|mk _ n _ _ _ _ _ _ _ _=>n
def a:Ac->Int|mk _ _ a _ _ _ _ _ _ _=>a
def b:Ac->Int|mk _ _ _ b _ _ _ _ _ _=>b
def t:Ac->Tm|mk _ _ _ _ t _ _ _ _ _=>t
def cs:Ac->List Tm|mk _ _ _ _ _ c _ _ _ _=>c
def ks:Ac->List Ac|mk _ _ _ _ _ _ k _ _ _=>k
def ls:Ac->List(Int×Int)|mk _ _ _ _ _ _ _ l _ _=>l
def ns:Ac->List Nd|mk _ _ _ _ _ _ _ _ n _=>n
def fs:Ac->List Fl|mk _ _ _ _ _ _ _ _ _ f=>f
mutual
def size:Ac->Nat|mk _ _ _ _ _ _ ks _ _ _=>sizes ks+1
def sizes:List Ac->Nat| []=>0|k::r=>size k+sizes r
end
mutual
def depth:Ac->Nat|mk _ _ _ _ _ _ ks _ _ _=>depths ks+1
def depths:List Ac->Nat| []=>0|k::r=>max(depth k)(depths r)
end
mutual
def go {St:Type} (step:Ac->St->Bool×St):Ac->St->Bool×St
 | .mk k n a b t c ks l x y,s=>if(step(.mk k n a b t c ks l x y)s).1=true then goes step ks(step(.mk k n a b t c ks l x y)s).2 else(false,(step(.mk k n a b t c ks l x y)s).2)
def goes {St:Type} (step:Ac->St->Bool×St):List Ac->St->Bool×St
 | [],s=>(true,s)
 |k::r,s=>if(go step k s).1=true then goes step r(go step k s).2 else(false,(go step k s).2)
end
mutual
def All(P:Ac->Prop):Ac->Prop| .mk k n a b t c ks l x y=>P(.mk k n a b t c ks l x y)/\Alls P ks
def Alls(P:Ac->Prop):List Ac->Prop| []=>True|k::r=>All P k/\Alls P r
end
mutual
def allP(p:Ac->Bool):Ac->Bool|mk k n a b t c ks l x y=>p(mk k n a b t c ks l x y)&&allPs p ks
def allPs(p:Ac->Bool):List Ac->Bool| []=>true|k::r=>allP p k&&allPs p r
end
theorem take_snoc {α:Type} (l:List α)(k:Nat)(h:k<l.length):l.take(k+1)=l.take k++ [l[k]]:=Tm.take_snoc l k h
theorem sizes_snoc(l:List Ac)(a:Ac):sizes(l++ [a])=sizes l+a.size:=by
 induction l with
 |nil=>simp [sizes]
 |cons k r ih=>simp only [List.cons_append,sizes,ih];omega
theorem depths_snoc(l:List Ac)(a:Ac):depths(l++ [a])=max(depths l)a.depth:=by
 induction l with
 |nil=>simp [depths]
 |cons k r ih=>simp only [List.cons_append,depths,ih];omega
theorem sizes_take(l:List Ac)(k:Nat)(h:k<l.length):sizes(l.take(k+1))=sizes(l.take k)+l[k].size:=by rw [take_snoc l k h,sizes_snoc]
theorem depths_take(l:List Ac)(k:Nat)(h:k<l.length):depths(l.take(k+1))=max(depths(l.take k))l[k].depth:=by rw [take_snoc l k h,depths_snoc]
theorem sizes_le(l:List Ac): ∀k,sizes(l.take k)<=sizes l:=by
 induction l with
 |nil=>intro k;simp
 |cons x r ih=>
  intro k
  cases k with
  |zero=>simp [sizes]
  |succ k=>simp only [List.take_succ_cons,sizes];have:=ih k;omega
theorem depths_get(l:List Ac): ∀k(h:k<l.length),l[k].depth<=depths l:=by
 induction l with
 |nil=>intro k h;simp at h
 |cons x r ih=>
  intro k h
  cases k with
  |zero=>simp only [List.getElem_cons_zero,depths];omega
  |succ k=>simp only [List.getElem_cons_succ,depths];have:=ih k(by simpa using h);omega
theorem size_pos(T:Ac):1<=T.size:=by cases T;simp [size]
theorem sizes_get(l:List Ac)(k:Nat)(h:k<l.length):sizes(l.take k)+l[k].size<=sizes l:=by rw [<-sizes_take l k h];exact sizes_le _ _
theorem length_le_sizes(l:List Ac):l.length<=sizes l:=by
 induction l with
 |nil=>simp
 |cons k r ih=>simp only [List.length_cons,sizes];have:=k.size_pos;omega
theorem size_eq(T:Ac):T.size=sizes T.ks+1:=by cases T;rfl
theorem depth_eq(T:Ac):T.depth=depths T.ks+1:=by cases T;rfl
mutual
theorem depth_le_size: ∀T:Ac,T.depth<=T.size
 |mk _ _ _ _ _ _ ks _ _ _=>by rw [depth,size];have:=depths_le_sizes ks;omega
theorem depths_le_sizes: ∀l:List Ac,depths l<=sizes l
 | []=>by simp [depths,sizes]
 |k::r=>by rw [depths,sizes];have:=depth_le_size k;have:=depths_le_sizes r;omega
end
theorem go_eq {St:Type} (step:Ac->St->Bool×St)(T:Ac)(s:St):T.go step s=if(step T s).1=true then goes step T.ks(step T s).2 else(false,(step T s).2):=by cases T;rfl
theorem all_eq(P:Ac->Prop)(T:Ac):T.All P=(P T/\Alls P T.ks):=by cases T;rfl
theorem alls_get {P:Ac->Prop} : ∀ {l:List Ac},Alls P l-> ∀k(h:k<l.length),l[k].All P
 | [],_,k,h=>by simp at h
 |x::r,hl,k,h=>by
  cases k with
  |zero=>exact hl.1
  |succ k=>exact alls_get hl.2 k(by simpa using h)
theorem goes_snoc {St : Type} (step : Ac -> St -> Bool × St) (x : Ac) : ∀ (l : List Ac) (s : St), goes step (l ++ [x]) s = if (goes step l s).1 = true then x.go step (goes step l s).2 else (false, (goes step l s).2)
  | [], s => by
    simp only [List.nil_append, goes, if_true]
    split
    · rename_i h; rw [<- h]
    rename_i h; rw [<- Bool.eq_false_iff.2 h]
  | k :: r, s => by
    rw [List.cons_append, goes, goes]
    split
    · exact goes_snoc step x r _
    simp
theorem goes_stop {St:Type} (step:Ac->St->Bool×St): ∀(a b:List Ac)(s s':St),goes step a s=(false,s')->goes step(a++b)s=(false,s')
 | [],b,s,s',h=>by simp [goes]at h
 |k::r,b,s,s',h=>by
  rw [goes]at h;rw [List.cons_append,goes]
  split
  ·rename_i hk;rw [if_pos hk]at h;exact goes_stop step r b _ _ h
  rename_i hk;rw [if_neg hk]at h;exact h
def Tms(w:World)(B d:Nat)(a:Option Addr)(cs:List Tm):Prop:= ∀j(h:j<cs.length),∃g off u,a=some⟨g,off,none⟩/\g<B/\w.cell? ⟨g,off+j*3,none⟩=some(.int .i64 cs[j].op)/\w.cell? ⟨g,off+j*3+1,none⟩=some(.int .i64 cs[j].num)/\w.cell? ⟨g,off+j*3+2,none⟩=some u/\Tm.Lies w B d u cs[j]
def Lks(w:World)(B:Nat)(a:Option Addr)(ls:List(Int×Int)):Prop:= ∀j(h:j<ls.length),∃g off,a=some⟨g,off,none⟩/\g<B/\w.cell? ⟨g,off+j*2,none⟩=some(.int .i64 ls[j].1)/\w.cell? ⟨g,off+j*2+1,none⟩=some(.int .i64 ls[j].2)
theorem Tms.keep {w w':World} {B d:Nat} {a:Option Addr} {cs:List Tm} (h:Tms w B d a cs)(hk: ∀k,k<B->w'.heap[k]? =w.heap[k]?):Tms w' B d a cs:=λj hj=>by
 obtain⟨g,off,u,h1,h2,c0,c1,c2,h3⟩:=h j hj;have hc: ∀o,w'.cell? ⟨g,o,none⟩=w.cell? ⟨g,o,none⟩:=λo=>World.cell?_of_block(w:=w)(hk g h2);exact⟨g,off,u,h1,h2,by rw [hc];exact c0,by rw [hc];exact c1,by rw [hc];exact c2,h3.keep hk⟩
theorem Lks.keep {w w':World} {B:Nat} {a:Option Addr} {ls:List(Int×Int)} (h:Lks w B a ls)(hk: ∀k,k<B->w'.heap[k]? =w.heap[k]?):Lks w' B a ls:=λj hj=>by
 obtain⟨g,off,h1,h2,c0,c1⟩:=h j hj;have hc: ∀o,w'.cell? ⟨g,o,none⟩=w.cell? ⟨g,o,none⟩:=λo=>World.cell?_of_block(w:=w)(hk g h2);exact⟨g,off,h1,h2,by rw [hc];exact c0,by rw [hc];exact c1⟩
theorem Tms.wider {w:World} {B B' d:Nat} {a:Option Addr} {cs:List Tm} (h:Tms w B d a cs)(hB:B<=B'):Tms w B' d a cs:=λj hj=>by
 obtain⟨g,off,u,h1,h2,c0,c1,c2,h3⟩:=h j hj;exact⟨g,off,u,h1,by omega,c0,c1,c2,h3.wider hB⟩
theorem Lks.wider {w:World} {B B':Nat} {a:Option Addr} {ls:List(Int×Int)} (h:Lks w B a ls)(hB:B<=B'):Lks w B' a ls:=λj hj=>by
 obtain⟨g,off,h1,h2,h3⟩:=h j hj;exact⟨g,off,h1,by omega,h3⟩
theorem nds_keep {w w':World} {B d:Nat} {a:Option Addr} {ns:List Nd} (h:Nt.Nds w B d a ns)(hk: ∀k,k<B->w'.heap[k]? =w.heap[k]?):Nt.Nds w' B d a ns:=λj hj=>by
 obtain⟨g,off,u,h1,h2,c0,c1,c2,c3,c4,h3⟩:=h j hj;have hc: ∀o,w'.cell? ⟨g,o,none⟩=w.cell? ⟨g,o,none⟩:=λo=>World.cell?_of_block(w:=w)(hk g h2);exact⟨g,off,u,h1,h2,by rw [hc];exact c0,by rw [hc];exact c1,by rw [hc];exact c2,by rw [hc];exact c3,by rw [hc];exact c4,h3.keep hk⟩
theorem fls_keep {w w':World} {B d:Nat} {a:Option Addr} {fs:List Fl} (h:Nt.Fls w B d a fs)(hk: ∀k,k<B->w'.heap[k]? =w.heap[k]?):Nt.Fls w' B d a fs:=λj hj=>by
 obtain⟨g,off,u,h1,h2,c0,c1,c2,c3,c4,c5,h3⟩:=h j hj;have hc: ∀o,w'.cell? ⟨g,o,none⟩=w.cell? ⟨g,o,none⟩:=λo=>World.cell?_of_block(w:=w)(hk g h2);exact⟨g,off,u,h1,h2,by rw [hc];exact c0,by rw [hc];exact c1,by rw [hc];exact c2,by rw [hc];exact c3,by rw [hc];exact c4,by rw [hc];exact c5,h3.keep hk⟩
structure Vs where
 t:Value
 c:Value
 k:Value
 l:Value
 n:Value
 f:Value
def row(T:Ac)(V:Vs):Array Value:= #[.int .i64 T.kind, .int .i64 T.node, .int .i64 T.a, .int .i64 T.b, .int .i64 T.t.op, .int .i64 T.t.num,V.t,V.c,V.k,V.l,V.n,V.f]
structure Own(w:World)(B e:Nat)(V:Vs)(T:Ac):Prop where
 t:Tm.Lies w B e V.t T.t
 c: ∃a cap,V.c= .slice a T.cs.length cap/\Tms w B e a T.cs
 l: ∃a cap,V.l= .slice a T.ls.length cap/\Lks w B a T.ls
 n: ∃a cap,V.n= .slice a T.ns.length cap/\Nt.Nds w B e a T.ns
 f: ∃a cap,V.f= .slice a T.fs.length cap/\Nt.Fls w B e a T.fs
theorem Own.keep {w w':World} {B e:Nat} {V:Vs} {T:Ac} (h:Own w B e V T)(hk: ∀k,k<B->w'.heap[k]? =w.heap[k]?):Own w' B e V T:=by
 obtain⟨h1,⟨a2,c2,e2,h2⟩,⟨a3,c3,e3,h3⟩,⟨a4,c4,e4,h4⟩,⟨a5,c5,e5,h5⟩⟩:=h;exact⟨h1.keep hk,⟨a2,c2,e2,h2.keep hk⟩,⟨a3,c3,e3,h3.keep hk⟩,⟨a4,c4,e4,nds_keep h4 hk⟩,⟨a5,c5,e5,fls_keep h5 hk⟩⟩
theorem Own.wider {w:World} {B B' e:Nat} {V:Vs} {T:Ac} (h:Own w B e V T)(hB:B<=B'):Own w B' e V T:=by
 obtain⟨h1,⟨a2,c2,e2,h2⟩,⟨a3,c3,e3,h3⟩,⟨a4,c4,e4,h4⟩,⟨a5,c5,e5,h5⟩⟩:=h;exact⟨h1.wider hB,⟨a2,c2,e2,h2.wider hB⟩,⟨a3,c3,e3,h3.wider hB⟩,⟨a4,c4,e4,h4.wider hB⟩,⟨a5,c5,e5,h5.wider hB⟩⟩
def Row(w:World)(g o:Nat)(cs:Array Value):Prop:= ∀i(h:i<cs.size),w.cell? ⟨g,o+i,none⟩=some cs[i]
theorem Row.keep {w w':World} {g o:Nat} {cs:Array Value} (h:Row w g o cs)(hk:w'.heap[g]? =w.heap[g]?):Row w' g o cs:=λi hi=>by
 rw [World.cell?_of_block(w:=w)hk];exact h i hi
def Lies(w:World)(B e:Nat):Nat->Vs->Ac->Prop
 |0,_,_=>False
 |d+1,V,T=>Own w B e V T/\ ∃a cap,V.k= .slice a T.ks.length cap/\ ∀j(h:j<T.ks.length),∃g off U,a=some⟨g,off,none⟩/\g<B/\Row w g(off+j*12)(row T.ks[j]U)/\Lies w B e d U T.ks[j]
theorem Lies.keep {w w':World} {B e:Nat} (hk: ∀k,k<B->w'.heap[k]? =w.heap[k]?): ∀ {d:Nat} {V:Vs} {T:Ac},Lies w B e d V T->Lies w' B e d V T
 |0,_,_,h=>h.elim
 |d+1,V,T,h=>by
  obtain⟨ho,a,cap,hv,h⟩:=h;refine⟨ho.keep hk,a,cap,hv,λj hj=> ?_⟩;obtain⟨g,off,U,ha,hg,hr,h1⟩:=h j hj;exact⟨g,off,U,ha,hg,hr.keep(hk g hg),Lies.keep hk h1⟩
theorem Lies.below {w w':World} {B e:Nat} (hb:Below B w w') {d:Nat} {V:Vs} {T:Ac} (h:Lies w B e d V T):Lies w' B e d V T:=h.keep hb.block
theorem Lies.wider {w:World} {B B' e:Nat} (hB:B<=B'): ∀ {d:Nat} {V:Vs} {T:Ac},Lies w B e d V T->Lies w B' e d V T
 |0,_,_,h=>h.elim
 |d+1,V,T,h=>by
  obtain⟨ho,a,cap,hv,h⟩:=h;refine⟨ho.wider hB,a,cap,hv,λj hj=> ?_⟩;obtain⟨g,off,U,ha,hg,hr,h1⟩:=h j hj;exact⟨g,off,U,ha,by omega,hr,Lies.wider hB h1⟩
theorem Lies.own {w:World} {B e d:Nat} {V:Vs} {T:Ac} (h:Lies w B e d V T):Own w B e V T:=by
 cases d with
 |zero=>exact h.elim
 |succ d=>exact h.1
theorem Lies.kids {w:World} {B e d:Nat} {V:Vs} {T:Ac} (h:Lies w B e d V T): ∃a cap,V.k= .slice a T.ks.length cap:=by
 cases d with
 |zero=>exact h.elim
 |succ d=>obtain⟨_,a,cap,hv,_⟩:=h;exact⟨a,cap,hv⟩
theorem Lies.shape {w:World} {B e d:Nat} {V:Vs} {T:Ac} (h:Lies w B e d V T): ∃a6 c6 a7 c7 a8 c8 a9 c9 a10 c10 a11 c11,V=⟨.slice a6 T.t.ks.length c6, .slice a7 T.cs.length c7, .slice a8 T.ks.length c8, .slice a9 T.ls.length c9, .slice a10 T.ns.length c10, .slice a11 T.fs.length c11⟩:=by
 obtain⟨a6,c6,e6⟩:=h.own.t.shape;obtain⟨a7,c7,e7,_⟩:=h.own.c;obtain⟨a8,c8,e8⟩:=h.kids;obtain⟨a9,c9,e9,_⟩:=h.own.l;obtain⟨a10,c10,e10,_⟩:=h.own.n;obtain⟨a11,c11,e11,_⟩:=h.own.f;refine⟨a6,c6,a7,c7,a8,c8,a9,c9,a10,c10,a11,c11, ?_⟩
 cases V
 simp only at e6 e7 e8 e9 e10 e11;rw [e6,e7,e8,e9,e10,e11]
theorem Lies.ones {w:World} {B e d:Nat} {V:Vs} {T:Ac} (h:Lies w B e d V T):(row T V).all(·.oneCell')=true:=by
 obtain⟨a6,c6,a7,c7,a8,c8,a9,c9,a10,c10,a11,c11,rfl⟩:=h.shape;simp [row,Value.oneCell']
theorem Lies.kid {w:World} {B e d:Nat} {V:Vs} {a:Option Addr} {n cap:Nat} {T:Ac} (h:Lies w B e(d+1)V T)(hv:V.k= .slice a n cap)(j:Nat)(hj:j<T.ks.length): ∃g off U,a=some⟨g,off,none⟩/\g<B/\Row w g(off+j*12)(row T.ks[j]U)/\Lies w B e d U T.ks[j]:=by
 obtain⟨_,a',cap',hv',h⟩:=h;rw [hv]at hv';obtain⟨rfl,_,_⟩:=Value.slice.inj hv';exact h j hj
end Ac
end Go.Proofs
