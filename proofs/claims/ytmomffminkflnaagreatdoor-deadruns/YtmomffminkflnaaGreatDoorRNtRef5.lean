import Derived.Test.YtmomffminkflnaaGreatDoorRNtRef2
set_option maxRecDepth 100000
set_option maxHeartbeats 32000000
namespace Go.Proofs
open Go.RowKit Go.Shelf
def Rk.Bits(w:World)(g:Nat)(bs:List Bool):Prop:=w.heap[g]? =some(.cells(bs.map Value.bool).toArray 4(0,0))
theorem Rk.Bits.lt {w:World} {g:Nat} {bs:List Bool} (h:Rk.Bits w g bs):g<w.heap.size:=(Array.getElem?_eq_some_iff.1 h).1
theorem Rk.Bits.cell {w:World} {g:Nat} {bs:List Bool} (h:Rk.Bits w g bs)(j:Nat)(b:Bool)(hj:bs[j]? =some b):w.cell? ⟨g,j,none⟩=some(.bool b):=by
 unfold Rk.Bits at h;simp [World.cell?,h,hj]
theorem Rk.Bits.frozen {w:World} {g:Nat} {bs:List Bool} (h:Rk.Bits w g bs)(j:Nat):w.frozen? ⟨g,j,none⟩=false:=by
 unfold Rk.Bits at h;simp [World.frozen?,h]
theorem Rk.Bits.put {w:World} {g:Nat} {bs:List Bool} (h:Rk.Bits w g bs)(j:Nat)(b:Bool):Rk.Bits(w.setCell⟨g,j,none⟩(.bool b))g(bs.set j b):=by
 unfold Rk.Bits at*;simp [World.setCell,Array.getElem?_modify,h]
theorem Rk.Bits.keep {w w':World} {g:Nat} {bs:List Bool} (h:Rk.Bits w g bs)(hk:w'.heap[g]? =w.heap[g]?):Rk.Bits w' g bs:=by unfold Rk.Bits;rw [hk];exact h
theorem Tryz.infoBool:(Tryz.prog.info? 4).map(λi=>(i.zero,i.size,i.bytes))=some(some(.bool false),1,1):=by kernel_rfl
theorem Nt.box2' {W:World} {b:Nat} {v u:Value} {t:TypeId} (h:W.heap[b]? =some(.cells #[v,u]t(0,0))):W.cell? ⟨b,0,none⟩=some v/\W.cell? ⟨b,1,none⟩=some u:=⟨by simp [World.cell?,h],by simp [World.cell?,h]⟩
def Rk.row(n:Nat):Array Value:=((List.replicate n false).map Value.bool).toArray
theorem Rk.make_bools(n:Nat)(hn:n<=64)(w:World):(Instr.makeSlice 151(.int .i64(n:Int))(.int .i64(n:Int))).run Tryz.prog w= .ok(.slice(some⟨w.heap.size,0,none⟩)n n)(w.alloc(.cells(Rk.row n)4)):=by
 have h:=run_make_row'(P:=Tryz.prog)151 4(.bool false)1 Tryz.underlying151 Tryz.infoBool rfl .i64 .i64 n(by omega)(by omega)w;rw [h,show madeCells #[Value.bool false]n=Rk.row n from ?_];apply Array.toList_inj.1;rw [toList_madeCells_one];simp [Rk.row]
theorem Rk.row_bits(w:World)(n:Nat):Rk.Bits(w.alloc(.cells(Rk.row n)4))w.heap.size(List.replicate n false):=heap_alloc_new w(.cells(Rk.row n)4)
theorem Rk.drop_at {α:Type} (l:List α)(k:Nat)(h:k<l.length):l.drop k=l[k]::l.drop(k+1):=List.drop_eq_getElem_cons h
theorem Tryz.rReach_any(a0:Nat)(an:Option Addr)(cn:Nat)(af:Option Addr)(cf d:Nat)(ns:List Nd)(fs:List Fl)(w:World)(hH:Nt.Has w w.heap.size d an af ns fs)(hn24:ns.length<=24)(hes: ∀f,f∈fs->0<=f.fr/\f.fr<ns.length/\0<=f.to/\f.to<ns.length)(ha:a0<ns.length):
  Calls Tryz.prog 97 #[.agg #[.slice an ns.length cn, .slice af fs.length cf], .int .i64 a0]w λe w'=> ∃g,e= .returned(.slice(some⟨g,0,none⟩)ns.length ns.length)/\w.heap.size<=g/\Rk.Bits w' g((List.range ns.length).map(Rk.met(Nt.edges fs)a0))/\Below w.heap.size w w':=by
 obtain⟨w0,hw0⟩: ∃x,w.alloc(.cells #[.slice an ns.length cn, .slice af fs.length cf]30)=x:=⟨_,rfl⟩;have A0:Below w.heap.size w w0:=by rw [<-hw0];exact(Below.refl _ w).alloc(Nat.le_refl _)_
 have G0:w0.heap[w.heap.size]? =some(.cells #[.slice an ns.length cn, .slice af fs.length cf]30(0,0)):=by rw [<-hw0];exact heap_alloc_new w _
 have hs0:w0.heap.size=w.heap.size+1:=by rw [<-hw0];simp
 have hmet:=Nt.sweeps_met(Nt.edges_lt hes)ha;have hmk:=Rk.make_bools ns.length(by omega);obtain⟨es,hE⟩: ∃l,Nt.edges fs=l:=⟨_,rfl⟩;rw [hE]at hmet
 have HES:Hid(∀k(h:k<fs.length),∃x y:Nat,x<ns.length/\y<ns.length/\fs[k].fr=x/\fs[k].to=y/\es[k]? =some(x,y)):=λk hk=>by
  have:=hes _(List.getElem_mem hk);refine⟨fs[k].fr.toNat,fs[k].to.toNat,by omega,by omega,by omega,by omega, ?_⟩;rw [<-hE,List.getElem?_eq_getElem(by rw [Nt.edges_length];exact hk),Nt.edges_get fs k hk]
 have hel:es.length=fs.length:=by rw [<-hE,Nt.edges_length]
 obtain⟨n,hnn⟩: ∃n,ns.length=n:=⟨_,rfl⟩;obtain⟨m,hmm⟩: ∃n,fs.length=n:=⟨_,rfl⟩;have HFL:Hid(Nt.Fls w w.heap.size d af fs):=hH.fls;have hm100:m<=100:=by have:=hH.flen;omega
 rw [hnn]at hn24 ha hmet hmk HES;rw [hnn,hmm]at hw0 G0;rw [hE,hnn,hmm];have ha':(a0:Int)<n:=by omega
 have ha0:(0:Int)<=a0:=by omega
 have H0:Hid(w.alloc(.cells #[.slice an n cn, .slice af m cf]30)=w0):=hw0;obtain⟨w1,hw1⟩: ∃x,w0.alloc(.cells(Rk.row n)4)=x:=⟨_,rfl⟩;have X1:Rk.Bits w1 w0.heap.size(List.replicate n false):=by rw [<-hw1];exact Rk.row_bits w0 n
 have A1:Below w.heap.size w w1:=by rw [<-hw1];exact A0.alloc A0.size _
 have G1:w1.heap[w.heap.size]? =some(.cells #[.slice an n cn, .slice af m cf]30(0,0)):=by rw [<-hw1,Below.heap_alloc _ _ _((Array.getElem?_eq_some_iff.1 G0).1)];exact G0
 have k0:=X1.cell a0 false(by simp [ha]);have k1:=X1.frozen a0;have Y1:Rk.Bits(w1.setCell⟨w0.heap.size,a0,none⟩(.bool true))w0.heap.size((List.replicate n false).set a0 true):=X1.put a0 true;obtain⟨w2,hw2⟩: ∃x,w1.setCell⟨w0.heap.size,a0,none⟩(.bool true)=x:=⟨_,rfl⟩;rw [hw2]at Y1
 -- what a world on the way holds
 have HK2:Hid(w2.heap[w.heap.size]? =some(.cells #[.slice an n cn, .slice af m cf]30(0,0))/\Below w.heap.size w w2/\Rk.Bits w2 w0.heap.size((List.replicate n false).set a0 true)):=by
  refine⟨?_, ?_,Y1⟩
  ·rw [<-hw2,Below.heap_setCell _ _ _ _(by show w.heap.size≠w0.heap.size;omega)];exact G1
  rw [<-hw2];exact A1.setCell(p:=⟨w0.heap.size,a0,none⟩)(by show w.heap.size<=w0.heap.size;omega)_
 have HW1:Hid(w0.alloc(.cells(Rk.row n)4)=w1):=hw1;have HW2:Hid(w1.setCell⟨w0.heap.size,a0,none⟩(.bool true)=w2):=hw2;have HM:Hid(Rk.sweeps es n((List.replicate n false).set a0 true)=(List.range n).map(Rk.met es a0)/\es.length=m/\w0.heap.size=w.heap.size+1/\fs.length=m):=⟨hmet,by omega,hs0,hmm⟩;obtain⟨p0,p1⟩:=Nt.box2' G0;obtain⟨p2,p3⟩:=Nt.box2' G1;obtain⟨b2,hb2⟩: ∃z,w0.heap.size=z:=⟨_,rfl⟩;have HB2:Hid(w0.heap.size=b2):=hb2;have hlt0:w.heap.size<w0.heap.size:=by omega
 clear hH hes hmet hE hel hnn hmm A0 G0 A1 G1 X1 Y1 hw0 hw1 hw2 hs0 hb2
 go_enter Tryz.func97,Tryz.ntmps97
 go_upto_region 1 with fail
 rw [H0.out]
 go_upto_region 2 with fail
 rw [HW1.out]
 go_upto_region 3 with fail
 rw [HW2.out];obtain⟨q0,q1⟩:=Nt.box2' HK2.out.1;clear p0 p1 p2 p3 k0 k1 hmk H0 HW1 HW2;rw [HB2.out];rw [HB2.out]at HK2 HM;go_wp2
 go_loopg [18]n(λgk s18 wr=> ∃(j:Nat)(cur:List Bool),gk+j=n/\s18= .int .i64 j/\Hid(Rk.sweeps es(n-j)cur=(List.range n).map(Rk.met es a0)/\cur.length=n/\Rk.Bits wr b2 cur/\Below w.heap.size w wr/\wr.heap[w.heap.size]? =some(.cells #[.slice an n cn, .slice af m cf]30(0,0))))
 case atStart=>exact⟨0,_,by omega,rfl,HM.out.1,by simp,HK2.out.2.2,HK2.out.2.1,HK2.out.1⟩
 case round=>
  obtain⟨j,cur,hj,rfl,HI⟩:=hrel;clear q0 q1
  by_cases hlt:j<n
  rotate_left
  ·have hd:decide((j:Int)<n)=false:=decide_eq_false(by omega)
   have HF:Hid(cur=(List.range n).map(Rk.met es a0)):=by
    show _=_;rw [<-HI.out.1,show n-j=0 by omega];rfl
   go_wp2;go_ret;exact⟨b2,rfl,by have:=HM.out.2.2.1;omega,by rw [<-HF.out];exact HI.out.2.2.1,HI.out.2.2.2.1⟩
  have hd:decide((j:Int)<n)=true:=decide_eq_true(by omega);obtain⟨q0,q1⟩:=Nt.box2' HI.out.2.2.2.2
  have HSW:Hid(Rk.sweeps es(n-(j+1))(Rk.sweep es cur)=(List.range n).map(Rk.met es a0)):=by
   show _=_;rw [<-HI.out.1,show n-j=(n-(j+1))+1 by omega,Rk.sweeps]
  obtain⟨g1,hg1⟩: ∃x,gk=x:=⟨_,rfl⟩;go_wp2
  go_loopg [23]m(λgk s23 wr=> ∃(k:Nat)(cu2:List Bool),gk+k=m/\s23= .int .i64 k/\Hid(Rk.sweep(es.drop k)cu2=Rk.sweep es cur/\cu2.length=n/\Rk.Bits wr b2 cu2/\Below w.heap.size w wr/\wr.heap[w.heap.size]? =some(.cells #[.slice an n cn, .slice af m cf]30(0,0))))
  case atStart=>exact⟨0,cur,by omega,rfl,rfl,HI.out.2.1,HI.out.2.2.1,HI.out.2.2.2.1,HI.out.2.2.2.2⟩
  case round=>
   obtain⟨k,cu2,hk,rfl,HJ⟩:=hrel;clear q0 q1
   by_cases hlt2:k<m
   rotate_left
   ·have hd2:decide((k:Int)<m)=false:=decide_eq_false(by omega)
    have HF:Hid(cu2=Rk.sweep es cur):=by
     show _=_;rw [<-HJ.out.1,List.drop_of_length_le(by rw [HM.out.2.1];omega)];rfl
    go_wp2;go_roundg(g1-1)
    case measure=>omega
    case rel=>exact⟨j+1,cu2,by omega,by go_num,by rw [HF.out];exact HSW.out,HJ.out.2.1,HJ.out.2.2.1,HJ.out.2.2.2.1,HJ.out.2.2.2.2⟩
   have hd2:decide((k:Int)<m)=true:=decide_eq_true(by omega);have hkl:k<fs.length:=by rw [HM.out.2.2.2];exact hlt2
   obtain⟨q,off,u,rfl,hq,h0,h1,h2,h3,h4,h5,h6⟩:=HFL.out k hkl;obtain⟨x,y,hx,hy,hfx,hfy,hek⟩:=HES.out k hkl;obtain⟨au,cu,rfl⟩:=h6.shape;rw [hfx]at h0;rw [hfy]at h1;obtain⟨nu,hnu⟩: ∃n,fs[k].c.ks.length=n:=⟨_,rfl⟩;obtain⟨els,hel⟩: ∃x,fs[k].els=x:=⟨_,rfl⟩;obtain⟨op,hop⟩: ∃x,fs[k].c.op=x:=⟨_,rfl⟩;obtain⟨num,hnum⟩: ∃x,fs[k].c.num=x:=⟨_,rfl⟩;rw [hnu]at h5;rw [hel]at h2;rw [hop]at h3;rw [hnum]at h4;have hc: ∀o,wr.cell? ⟨q,o,none⟩=w.cell? ⟨q,o,none⟩:=λo=>HJ.out.2.2.2.1.cell(p:=⟨q,o,none⟩)hq;have c0:=(hc _).trans h0;have c1:=(hc _).trans h1;have c2:=(hc _).trans h2;have c3:=(hc _).trans h3;have c4:=(hc _).trans h4;have c5:=(hc _).trans h5;have hx':(x:Int)<n:=by omega
   have hy':(y:Int)<n:=by omega
   have hx0:(0:Int)<=x:=by omega
   have hy0:(0:Int)<=y:=by omega
   have hz:b2<wr.heap.size:=HJ.out.2.2.1.lt;have hu:=Tryz.underlying78;obtain⟨b1,hb1⟩: ∃b,cu2[x]? =some b:=⟨_,List.getElem?_eq_getElem(by rw [HJ.out.2.1];exact hx)⟩;obtain⟨b3,hb3⟩: ∃b,cu2[y]? =some b:=⟨_,List.getElem?_eq_getElem(by rw [HJ.out.2.1];exact hy)⟩;have k1:=HJ.out.2.2.1.cell x b1 hb1;have k2:=HJ.out.2.2.1.cell y b3 hb3;have f2:=HJ.out.2.2.1.frozen y;have hbx:w.heap.size<wr.heap.size:=(Array.getElem?_eq_some_iff.1 HJ.out.2.2.2.2).1
   have HNX:Hid(Rk.sweep(es.drop(k+1))(if b1=true then cu2.set y true else cu2)=Rk.sweep es cur):=by
    show _=_;rw [<-HJ.out.1,Rk.drop_at es k(by rw [HM.out.2.1];exact hlt2),Rk.sweep];obtain⟨hh,he⟩:=List.getElem?_eq_some_iff.1 hek;rw [he]
    congr 1
    simp only [hb1,Option.some.injEq]
   have HA:Hid(Rk.Bits(wr.alloc(.cells #[.int .i64(x:Int), .int .i64(y:Int), .bool els, .int .i64 op, .int .i64 num, .slice au nu cu]78))b2 cu2/\Below w.heap.size w(wr.alloc(.cells #[.int .i64(x:Int), .int .i64(y:Int), .bool els, .int .i64 op, .int .i64 num, .slice au nu cu]78))/\(wr.alloc(.cells #[.int .i64(x:Int), .int .i64(y:Int), .bool els, .int .i64 op, .int .i64 num, .slice au nu cu]78)).heap[w.heap.size]? =some(.cells #[.slice an n cn, .slice(some⟨q,off,none⟩)m cf]30(0,0))):=
    ⟨HJ.out.2.2.1.keep(Below.heap_alloc _ _ _ hz),HJ.out.2.2.2.1.alloc HJ.out.2.2.2.1.size _,by rw [Below.heap_alloc _ _ _ hbx];exact HJ.out.2.2.2.2⟩
   have hne:w.heap.size≠b2:=by have:=HM.out.2.2.1;omega
   have HS:Hid(Rk.Bits((wr.setCell⟨b2,y,none⟩(.bool true)).alloc(.cells #[.int .i64(x:Int), .int .i64(y:Int), .bool els, .int .i64 op, .int .i64 num, .slice au nu cu]78))b2(cu2.set y true)/\Below w.heap.size w((wr.setCell⟨b2,y,none⟩(.bool true)).alloc(.cells #[.int .i64(x:Int), .int .i64(y:Int), .bool els, .int .i64 op, .int .i64 num, .slice au nu cu]78))/\((wr.setCell⟨b2,y,none⟩(.bool true)).alloc(.cells #[.int .i64(x:Int), .int .i64(y:Int), .bool els, .int .i64 op, .int .i64 num, .slice au nu cu]78)).heap[w.heap.size]? =some(.cells #[.slice an n cn, .slice(some⟨q,off,none⟩)m cf]30(0,0))):=
    ⟨(HJ.out.2.2.1.put y true).keep(Below.heap_alloc _ _ _(by simpa using hz)),(HJ.out.2.2.2.1.setCell(p:=⟨b2,y,none⟩)(by show w.heap.size<=b2;have:=HM.out.2.2.1;omega)_).alloc(by simpa using HJ.out.2.2.2.1.size)_,by rw [Below.heap_alloc _ _ _(by simpa using hbx),Below.heap_setCell _ _ _ _ hne];exact HJ.out.2.2.2.2⟩
   clear h0 h1 h2 h3 h4 h5 h6 hc hnu hel hop hnum hq hfx hfy hek hb1 hb3
   cases b1
   ·go_wp2
    go_roundg(gk-1)
    case measure=>omega
    case rel=>exact⟨k+1,_,by omega,by go_num,HNX.out,HJ.out.2.1,HA.out.1,HA.out.2.1,HA.out.2.2⟩
   go_wp2;go_roundg(gk-1)
   case measure=>omega
   case rel=>exact⟨k+1,_,by omega,by go_num,HNX.out,by simpa using HJ.out.2.1,HS.out.1,HS.out.2.1,HS.out.2.2⟩
theorem Nt.head_filter {n:Nat} {p:Nat->Bool} {k:Nat} (hk:k<n)(hp:p k=true)(h: ∀i,i<k->p i=false):((List.range n).filter p).headD 0=k/\(List.range n).filter p≠ []:=by
 have e:(List.range n).filter p=k::((List.range n).filter p).tail:=by
  have h1:List.range n=List.range k++(k::(List.range(n-k-1)).map(k+1+·)):=by
   rw [show List.range n=List.range(k+(1+(n-k-1)))by congr 1;omega,List.range_add,List.range_add];simp [Function.comp_def,Nat.add_assoc]
  rw [h1,List.filter_append,List.filter_cons_of_pos hp];have h2:(List.range k).filter p= []:=List.filter_eq_nil_iff.2 λi hi=>by rw [h i(List.mem_range.1 hi)];simp
  rw [h2];rfl
 rw [e];exact⟨rfl,by simp⟩
theorem Nt.filter_none {n:Nat} {p:Nat->Bool} (h: ∀i,i<n->p i=false):(List.range n).filter p= []:=List.filter_eq_nil_iff.2 λi hi=>by rw [h i(List.mem_range.1 hi)];simp
theorem Nt.check_at {ns:List Nd} {fs:List Fl} {j a:Nat} (hj:j<4)(hb: ∀i,i<j->Nt.wrongAt ns fs i= [])(h:Nt.wrongAt ns fs j≠ [])(ha:(Nt.wrongAt ns fs j).headD 0=a):Nt.checkN ns fs=(j+1,a):=by
 rw [Nt.checkN,Nt.broken_at hj hb h,<-ha]
theorem Nt.check_none {ns:List Nd} {fs:List Fl} (hb: ∀i,i<4->Nt.wrongAt ns fs i= []):Nt.checkN ns fs=(0,0):=by rw [Nt.checkN,Nt.broken_none hb];rfl
theorem Nt.first_le {ns:List Nd} {k:Int} {i:Nat} (hi:i<ns.length)(hk:ns[i].kind=k):0<=Nt.firstI ns k/\Nt.firstI ns k<=i:=by
 unfold Nt.firstI
 cases h:ns.findIdx? (λx=>decide(x.kind=k))with
 |none=>
  have:=List.findIdx?_eq_none_iff.1 h ns[i](List.getElem_mem hi);simp [hk]at this
 |some j=>
  obtain⟨hj,_,h2⟩:=List.findIdx?_eq_some_iff_getElem.1 h;refine⟨by simp, ?_⟩
  rcases Nat.lt_or_ge i j with hlt|hge
  ·have:=h2 i hlt
   simp [hk]at this
  simp;exact hge
theorem Nt.joint_eq {ns:List Nd} {fs:List Fl} {i:Nat} (hi:i<ns.length):(!Nt.jointB ns fs i)=(!Nt.threeB ns fs i||(decide(ns[i].kind=1)&&decide(Nt.firstI ns 1<(i:Int)))||(decide(ns[i].kind=2)&&decide(Nt.firstI ns 2<(i:Int)))):=by
 unfold Nt.jointB;rw [Nt.kindAt_get ns i hi]
 have h1:ns[i].kind=1->(!decide((i:Int)=Nt.firstI ns 1))=decide(Nt.firstI ns 1<(i:Int)):=λhk=>by
  have:=Nt.first_le hi hk;rw [<-decide_not];exact decide_eq_decide.2(by omega)
 have h2:ns[i].kind=2->(!decide((i:Int)=Nt.firstI ns 2))=decide(Nt.firstI ns 2<(i:Int)):=λhk=>by
  have:=Nt.first_le hi hk;rw [<-decide_not];exact decide_eq_decide.2(by omega)
 by_cases k1:ns[i].kind=1
 ·rw [h1 k1,decide_eq_true k1,decide_eq_false(show¬ns[i].kind=2 by omega)]
  cases Nt.threeB ns fs i<;>cases decide(Nt.firstI ns 1<(i:Int))<;>rfl
 by_cases k2:ns[i].kind=2
 ·rw [h2 k2,decide_eq_true k2,decide_eq_false k1]
  cases Nt.threeB ns fs i<;>cases decide(Nt.firstI ns 2<(i:Int))<;>rfl
 rw [decide_eq_false k1,decide_eq_false k2]
 cases Nt.threeB ns fs i<;>rfl
structure Nt.Kw(w:World)(box:Array Value)(W:World):Prop where
 below:Below w.heap.size w W
 box:W.heap[w.heap.size]? =some(.cells box 30(0,0))
 ans:W.heap[w.heap.size+1]? =some(.cells #[.int .i64 0, .int .i64 0]120(0,0))
theorem Nt.Kw.next {w:World} {box:Array Value} {W W':World} (h:Nt.Kw w box W)(hb:Below W.heap.size W W'):Nt.Kw w box W':=
 ⟨h.below.trans(hb.mono h.below.size),by rw [hb.block _(Nt.lt_of h.box)];exact h.box,by rw [hb.block _(Nt.lt_of h.ans)];exact h.ans⟩
theorem Nt.Kw.alloc {w:World} {box:Array Value} {W:World} (h:Nt.Kw w box W)(o:Obj):Nt.Kw w box(W.alloc o):=h.next((Below.refl _ W).alloc(Nat.le_refl _)o)
theorem Nt.Kw.ends {w:World} {box:Array Value} {W:World} (h:Nt.Kw w box W)(r a:Int)(tmps:Array Value)(ht:tmps.getD 2 undef= .pointer(some⟨w.heap.size+1,0,none⟩)):
  (results Tryz.f71 tmps).run Tryz.prog(W.setRow(w.heap.size+1) #[.int .i64 r, .int .i64 a])= .ok(.agg #[.int .i64 r, .int .i64 a])(W.setRow(w.heap.size+1) #[.int .i64 r, .int .i64 a])/\Below w.heap.size w(W.setRow(w.heap.size+1) #[.int .i64 r, .int .i64 a]):=
 ⟨results_cell_row Tryz.results71 _ _(w.heap.size+1)120 #[.int .i64 r, .int .i64 a](0,0)_ ht(setRow_heap _ _ _ _ _ _ h.ans)Tryz.underlying120 rfl(by kernel_rfl),Tk.below_row h.below(by omega)_⟩
theorem Tryz.rCheck_any(an:Option Addr)(cn:Nat)(af:Option Addr)(cf d:Nat)(ns:List Nd)(fs:List Fl)(w:World)(hH:Nt.Has w w.heap.size d an af ns fs):
  Calls Tryz.prog 71 #[.agg #[.slice an ns.length cn, .slice af fs.length cf]]w λe w'=>e= .returned(.agg #[.int .i64((Nt.checkN ns fs).1:Int), .int .i64((Nt.checkN ns fs).2:Int)])/\Below w.heap.size w w':=by
 obtain⟨w1,hw1⟩: ∃x,(w.alloc(.cells #[.slice an ns.length cn, .slice af fs.length cf]30)).alloc(.cells #[.int .i64 0, .int .i64 0]120)=x:=⟨_,rfl⟩
 have K1:Nt.Kw w #[.slice an ns.length cn, .slice af fs.length cf]w1:=by
  rw [<-hw1];refine⟨((Below.refl _ w).alloc(Nat.le_refl _)_).alloc(by simp)_, ?_, ?_⟩
  ·rw [Below.heap_alloc _ _ _(by simp)];exact heap_alloc_new w _
  have:=heap_alloc_new(w.alloc(.cells #[.slice an ns.length cn, .slice af fs.length cf]30))(.cells #[.int .i64 0, .int .i64 0]120);simpa using this
 obtain⟨n,hnn⟩: ∃n,ns.length=n:=⟨_,rfl⟩;obtain⟨m,hmm⟩: ∃n,fs.length=n:=⟨_,rfl⟩;have hn100:n<=100:=by have:=hH.nlen;omega
 have hm100:m<=100:=by have:=hH.flen;omega
 have HH:Hid(Nt.Has w w.heap.size d an af ns fs/\ns.length=n/\fs.length=m):=⟨hH,hnn,hmm⟩;obtain⟨c,hc⟩: ∃c,Nt.checkN ns fs=c:=⟨_,rfl⟩;have HC:Hid(Nt.checkN ns fs=c):=hc;rw [hnn,hmm]at hw1 K1;rw [hc,hnn,hmm];have H1:Hid((w.alloc(.cells #[.slice an n cn, .slice af m cf]30)).alloc(.cells #[.int .i64 0, .int .i64 0]120)=w1):=hw1;have HK1:Hid(Nt.Kw w #[.slice an n cn, .slice af m cf]w1):=K1;have HHW:Hid(∀W,Nt.Kw w #[.slice an n cn, .slice af m cf]W->Nt.Has W W.heap.size d an af ns fs/\W.cell? ⟨w.heap.size,0,none⟩=some(.slice an n cn)/\W.cell? ⟨w.heap.size,1,none⟩=some(.slice af m cf)):=λW h=>⟨(HH.out.1.below h.below).wider h.below.size,(Nt.box2 h.box).1,(Nt.box2 h.box).2⟩;obtain⟨p0,p1⟩:=Nt.box2 K1.box;clear hH hnn hmm hc hw1 K1
 by_cases hbig:24<n∨40<m
 ·obtain⟨c0,c1⟩:=c
  have HE:Hid(1=c0/\0=c1):=by
   have hw:Nt.wrongAt ns fs 0= [0]:=by
    show Nt.wrong1 ns fs= [0];rw [Nt.wrong1,if_pos(by simp [Nt.hugeB,HH.out.2.1,HH.out.2.2];omega)]
   have:=Nt.check_at(ns:=ns)(fs:=fs)(j:=0)(a:=0)(by omega)(λi hi=>by omega)(by rw [hw];simp)(by rw [hw];rfl);rw [HC.out]at this;exact⟨(congrArg Prod.fst this).symm,(congrArg Prod.snd this).symm⟩
  obtain⟨rfl,rfl⟩:=HE.out
  obtain h1|⟨h1,h2⟩:decide((24:Int)<n)=true∨(decide((24:Int)<n)=false/\decide((40:Int)<m)=true):=by simp;omega
  all_goals
   clear hbig HE;have hans:=HK1.out.ans
   go_enter Tryz.func71,Tryz.ntmps71
   go_upto_region 1 with fail
   rw [H1.out]
   go_wp2_with(refine wpList_store_row rfl 120 _ _ rfl(w.heap.size+1)_ rfl rfl 120 #[.int .i64 0, .int .i64 0]hans(by kernel_rfl)rfl(by kernel_rfl) ?_)
   exact bodyPost_ret(v:= .agg #[.int .i64 1, .int .i64 0])(HK1.out.ends 1 0 _ rfl).1 rfl⟨rfl,(HK1.out.ends 1 0 #[undef,undef, .pointer(some⟨w.heap.size+1,0,none⟩)]rfl).2⟩
 have h1:decide((24:Int)<n)=false:=decide_eq_false(by omega);have h2:decide((40:Int)<m)=false:=decide_eq_false(by omega);have hn24:n<=24:=by omega
 clear hbig
 go_enter Tryz.func71,Tryz.ntmps71
 go_upto_region 1 with fail
 rw [H1.out];go_wp2;clear H1 p0 p1
 go_loopg [28]n(λgk s28 wr=> ∃j:Nat,gk+j=n/\s28= .int .i64 j/\Hid(Nt.Kw w #[.slice an n cn, .slice af m cf]wr/\ ∀i(h:i<ns.length),i<j->Nt.oneB ns[i]=true))
 case atStart=>exact⟨0,by omega,rfl,HK1.out,λi _ h=>by omega⟩
 case round=>
  obtain⟨j,hj,rfl,HI⟩:=hrel
  by_cases hlt:j<n
  ·have hd:decide((j:Int)<n)=true:=decide_eq_true(by omega)
   have hjl:j<ns.length:=by rw [HH.out.2.1];exact hlt
   obtain⟨g,off,u,rfl,hg,q0,q1,q2,q3,q4,hT⟩:=HH.out.1.nds j hjl;obtain⟨au,cu,rfl⟩:=hT.shape;obtain⟨x,hx⟩: ∃x,ns[j]=x:=⟨_,rfl⟩;have hsz:=HH.out.1.nsz _(List.getElem_mem hjl);rw [hx]at q0 q1 q2 q3 hT hsz;have hcc: ∀o,wr.cell? ⟨g,o,none⟩=w.cell? ⟨g,o,none⟩:=λo=>HI.out.1.below.cell(p:=⟨g,o,none⟩)hg;obtain⟨W0,hW0⟩: ∃z,wr.alloc(.cells #[.int .i64 x.kind, .int .i64 x.a, .int .i64 x.t.op, .int .i64 x.t.num, .slice au x.t.ks.length cu]76)=z:=⟨_,rfl⟩;have K0:Nt.Kw w #[.slice(some⟨g,off,none⟩)n cn, .slice af m cf]W0:=by rw [<-hW0];exact HI.out.1.alloc _
   have G0:W0.heap[wr.heap.size]? =some(.cells #[.int .i64 x.kind, .int .i64 x.a, .int .i64 x.t.op, .int .i64 x.t.num, .slice au x.t.ks.length cu]76(0,0)):=by rw [<-hW0];exact heap_alloc_new wr _
   have hcall:=Tryz.rone_any d x(.slice au x.t.ks.length cu)W0((hT.below K0.below).wider K0.below.size)hsz;rw [hx]at q4;obtain⟨x0,hx0⟩: ∃z,x.kind=z:=⟨_,rfl⟩;obtain⟨x1,hx1⟩: ∃z,x.a=z:=⟨_,rfl⟩;obtain⟨x2,hx2⟩: ∃z,x.t.op=z:=⟨_,rfl⟩;obtain⟨x3,hx3⟩: ∃z,x.t.num=z:=⟨_,rfl⟩;obtain⟨nu,hnu⟩: ∃z,x.t.ks.length=z:=⟨_,rfl⟩;obtain⟨b,hb⟩: ∃z,Nt.oneB x=z:=⟨_,rfl⟩;rw [hx0,hx1,hx2,hx3,hnu,hb]at hcall;rw [hx0,hx1,hx2,hx3,hnu]at hW0 G0;rw [hx0]at q0;rw [hx1]at q1;rw [hx2]at q2;rw [hx3]at q3;rw [hnu]at q4;have d0:=(hcc _).trans q0;have d1:=(hcc _).trans q1;have d2:=(hcc _).trans q2;have d3:=(hcc _).trans q3;have d4:=(hcc _).trans q4;have hu:=Tryz.underlying76;have HCL:Hid _:=hcall;have HW0:Hid(wr.alloc(.cells #[.int .i64 x0, .int .i64 x1, .int .i64 x2, .int .i64 x3, .slice au nu cu]76)=W0):=hW0;have HK0:Hid(Nt.Kw w #[.slice(some⟨g,off,none⟩)n cn, .slice af m cf]W0):=K0;have HB:Hid(Nt.oneB ns[j]=b):=by show _=_;rw [hx];exact hb
   clear hcall hcc q0 q1 q2 q3 q4 hT hx hx0 hx1 hx2 hx3 hnu hg hW0 K0 G0 hb hsz
   go_wp2_with fail
   rw [HW0.out];refine Calls.mono HCL.out ?_;rintro e W2⟨rfl,hb2⟩;have K2:Hid(Nt.Kw w #[.slice(some⟨g,off,none⟩)n cn, .slice af m cf]W2):=HK0.out.next hb2;clear hb2 HCL HW0 d0 d1 d2 d3 d4
   cases b with
   |true=>
    go_wp2;go_roundg(gk-1)
    case measure=>omega
    case rel=>
     refine⟨j+1,by omega,by go_num,K2.out,λi hi hij=> ?_⟩
     rcases Nat.lt_or_ge i j with h|h
     ·exact HI.out.2 i hi h
     obtain rfl:i=j:=by omega
     exact HB.out
   |false=>
    obtain⟨c0,c1⟩:=c
    have HE:Hid(1=c0/\j=c1):=by
     have hq:=Nt.head_filter(n:=ns.length)(p:=λi=> !((ns[i]?.map Nt.oneB).getD true))(k:=j)hjl(by simp only [List.getElem?_eq_getElem hjl];simp [HB.out])(λi hi=>by
      have hil:i<ns.length:=by omega
      simp only [List.getElem?_eq_getElem hil]
      simp [HI.out.2 i hil hi])
     have hw:Nt.wrongAt ns fs 0=(List.range ns.length).filter(λi=> !((ns[i]?.map Nt.oneB).getD true)):=by
      show Nt.wrong1 ns fs=_;rw [Nt.wrong1,if_neg(by simp [Nt.hugeB,HH.out.2.1,HH.out.2.2];have:=h2;simp at this;omega)]
     have:=Nt.check_at(ns:=ns)(fs:=fs)(j:=0)(a:=j)(by omega)(λi hi=>by omega)(by rw [hw];exact hq.2)(by rw [hw];exact hq.1);rw [HC.out]at this;exact⟨(congrArg Prod.fst this).symm,(congrArg Prod.snd this).symm⟩
    obtain⟨rfl,rfl⟩:=HE.out;have hans:=K2.out.ans;clear HE
    go_wp2_with(refine wpList_store_row rfl 120 _ _ rfl(w.heap.size+1) #[.int .i64 1, .int .i64(j:Int)]rfl rfl 120 #[.int .i64 0, .int .i64 0]hans(by kernel_rfl)rfl(by kernel_rfl) ?_)
    exact bodyPost_ret(v:= .agg #[.int .i64 1, .int .i64(j:Int)])(K2.out.ends 1 j _ rfl).1 rfl⟨rfl,(K2.out.ends 1 j #[undef,undef, .pointer(some⟨w.heap.size+1,0,none⟩)]rfl).2⟩
  have hd:decide((j:Int)<n)=false:=decide_eq_false(by omega)
  have HW1:Hid(Nt.wrongAt ns fs 0= []):=by
   show Nt.wrong1 ns fs= [];rw [Nt.wrong1,if_neg(by simp [Nt.hugeB,HH.out.2.1,HH.out.2.2];have:=h2;simp at this;omega)];exact Nt.filter_none λi hi=>by simp only [List.getElem?_eq_getElem hi];simp [HI.out.2 i hi(by have:=HH.out.2.1;omega)]
  obtain⟨-,p0,p1⟩:=HHW.out wr HI.out.1;obtain⟨KA,hKA⟩: ∃z:World,wr=z:=⟨_,rfl⟩;have HKI:Hid(Nt.Kw w #[.slice an n cn, .slice af m cf]wr):=HI.out.1;clear HI hKA KA;go_wp2;clear p0 p1
  go_loopg [42]m(λgk s42 wr=> ∃j:Nat,gk+j=m/\s42= .int .i64 j/\Hid(Nt.Kw w #[.slice an n cn, .slice af m cf]wr/\ ∀i(h:i<fs.length),i<j->Nt.twoB ns fs fs[i]=true))
  case atStart=>exact⟨0,by omega,rfl,HKI.out,λi _ h=>by omega⟩
  case round=>
   obtain⟨j2,hj2,rfl,HJ⟩:=hrel;clear HKI
   by_cases hlt2:j2<m
   ·have hd2:decide((j2:Int)<m)=true:=decide_eq_true(by omega)
    have hjl:j2<fs.length:=by rw [HH.out.2.2];exact hlt2
    obtain⟨g,off,u,rfl,hg,q0,q1,q2,q3,q4,q5,hT⟩:=HH.out.1.fls j2 hjl;obtain⟨au,cu,rfl⟩:=hT.shape;obtain⟨x,hx⟩: ∃x,fs[j2]=x:=⟨_,rfl⟩;have hsz:=HH.out.1.fsz _(List.getElem_mem hjl);rw [hx]at q0 q1 q2 q3 q4 q5 hT hsz;have hcc: ∀o,wr.cell? ⟨g,o,none⟩=w.cell? ⟨g,o,none⟩:=λo=>HJ.out.1.below.cell(p:=⟨g,o,none⟩)hg;obtain⟨W0,hW0⟩: ∃z,wr.alloc(.cells #[.int .i64 x.fr, .int .i64 x.to, .bool x.els, .int .i64 x.c.op, .int .i64 x.c.num, .slice au x.c.ks.length cu]78)=z:=⟨_,rfl⟩;have K0:Nt.Kw w #[.slice an n cn, .slice(some⟨g,off,none⟩)m cf]W0:=by rw [<-hW0];exact HJ.out.1.alloc _
    have G0:W0.heap[wr.heap.size]? =some(.cells #[.int .i64 x.fr, .int .i64 x.to, .bool x.els, .int .i64 x.c.op, .int .i64 x.c.num, .slice au x.c.ks.length cu]78(0,0)):=by rw [<-hW0];exact heap_alloc_new wr _
    have hcall:=Tryz.rtwo_any x(.slice au x.c.ks.length cu)an cn(some⟨g,off,none⟩)cf d ns fs W0(HHW.out W0 K0).1((hT.below K0.below).wider K0.below.size)hsz;obtain⟨-,p0,p1⟩:=HHW.out wr HJ.out.1;obtain⟨x0,hx0⟩: ∃z,x.fr=z:=⟨_,rfl⟩;obtain⟨x1,hx1⟩: ∃z,x.to=z:=⟨_,rfl⟩;obtain⟨x2,hx2⟩: ∃z,x.els=z:=⟨_,rfl⟩;obtain⟨x3,hx3⟩: ∃z,x.c.op=z:=⟨_,rfl⟩;obtain⟨x4,hx4⟩: ∃z,x.c.num=z:=⟨_,rfl⟩;obtain⟨nu,hnu⟩: ∃z,x.c.ks.length=z:=⟨_,rfl⟩;obtain⟨b,hb⟩: ∃z,Nt.twoB ns fs x=z:=⟨_,rfl⟩;rw [hx0,hx1,hx2,hx3,hx4,hnu,hb,HH.out.2.1,HH.out.2.2]at hcall;rw [hx0,hx1,hx2,hx3,hx4,hnu]at hW0 G0;rw [hx0]at q0;rw [hx1]at q1;rw [hx2]at q2;rw [hx3]at q3;rw [hx4]at q4;rw [hnu]at q5;have d0:=(hcc _).trans q0;have d1:=(hcc _).trans q1;have d2:=(hcc _).trans q2;have d3:=(hcc _).trans q3;have d4:=(hcc _).trans q4;have d5:=(hcc _).trans q5;have hu:=Tryz.underlying78;have hbl:w.heap.size<wr.heap.size:=Nt.lt_of HJ.out.1.box;have HCL:Hid _:=hcall;have HW0:Hid(wr.alloc(.cells #[.int .i64 x0, .int .i64 x1, .bool x2, .int .i64 x3, .int .i64 x4, .slice au nu cu]78)=W0):=hW0;have HK0:Hid(Nt.Kw w #[.slice an n cn, .slice(some⟨g,off,none⟩)m cf]W0):=K0;have HB:Hid(Nt.twoB ns fs fs[j2]=b):=by show _=_;rw [hx];exact hb
    clear hcall hcc q0 q1 q2 q3 q4 q5 hT hx hx0 hx1 hx2 hx3 hx4 hnu hg hW0 K0 G0 hb hsz
    go_wp2_with fail
    rw [HW0.out];refine Calls.mono HCL.out ?_;rintro e W2⟨rfl,hb2⟩;have K2:Hid(Nt.Kw w #[.slice an n cn, .slice(some⟨g,off,none⟩)m cf]W2):=HK0.out.next hb2;clear hb2 HCL HW0 d0 d1 d2 d3 d4 d5 p0 p1
    cases b with
    |true=>
     go_wp2;go_roundg(gk-1)
     case measure=>omega
     case rel=>
      refine⟨j2+1,by omega,by go_num,K2.out,λi hi hij=> ?_⟩
      rcases Nat.lt_or_ge i j2 with h|h
      ·exact HJ.out.2 i hi h
      obtain rfl:i=j2:=by omega
      exact HB.out
    |false=>
     obtain⟨c0,c1⟩:=c
     have HE:Hid(2=c0/\j2=c1):=by
      have hq:=Nt.head_filter(n:=fs.length)(p:=λi=> !((fs[i]?.map(Nt.twoB ns fs)).getD true))(k:=j2)hjl(by simp only [List.getElem?_eq_getElem hjl];simp [HB.out])(λi hi=>by
       have hil:i<fs.length:=by omega
       simp only [List.getElem?_eq_getElem hil]
       simp [HJ.out.2 i hil hi])
      have:=Nt.check_at(ns:=ns)(fs:=fs)(j:=1)(a:=j2)(by omega)(λi hi=>by
       obtain rfl:i=0:=(by omega)
       exact HW1.out)hq.2 hq.1
      rw [HC.out]at this;exact⟨(congrArg Prod.fst this).symm,(congrArg Prod.snd this).symm⟩
     obtain⟨rfl,rfl⟩:=HE.out;have hans:=K2.out.ans;clear HE
     go_wp2_with(refine wpList_store_row rfl 120 _ _ rfl(w.heap.size+1) #[.int .i64 2, .int .i64(j2:Int)]rfl rfl 120 #[.int .i64 0, .int .i64 0]hans(by kernel_rfl)rfl(by kernel_rfl) ?_)
     exact bodyPost_ret(v:= .agg #[.int .i64 2, .int .i64(j2:Int)])(K2.out.ends 2 j2 _ rfl).1 rfl⟨rfl,(K2.out.ends 2 j2 #[undef,undef, .pointer(some⟨w.heap.size+1,0,none⟩)]rfl).2⟩
   have hd2:decide((j2:Int)<m)=false:=decide_eq_false(by omega)
   have HW2:Hid(Nt.wrongAt ns fs 1= []):=by
    show Nt.wrong2 ns fs= [];exact Nt.filter_none λi hi=>by simp only [List.getElem?_eq_getElem hi];simp [HJ.out.2 i hi(by have:=HH.out.2.2;omega)]
   have HKJ:Hid(Nt.Kw w #[.slice an n cn, .slice af m cf]wr):=HJ.out.1;clear HJ;obtain⟨s,hs⟩: ∃z,Nt.firstI ns 1=z:=⟨_,rfl⟩;obtain⟨t,ht⟩: ∃z,Nt.firstI ns 2=z:=⟨_,rfl⟩
   have CF1:Hid(∀W,Nt.Kw w #[.slice an n cn, .slice af m cf]W->Calls Tryz.prog 95 #[.agg #[.slice an n cn, .slice af m cf], .int .i64 1]W λe w'=>e= .returned(.int .i64 s)/\Hid(Nt.Kw w #[.slice an n cn, .slice af m cf]w')):=λW h=>by
    have q:=Tryz.rFirst_any 1 an cn d af m cf ns W(HHW.out W h).1.nds(HHW.out W h).1.nlen;rw [hs,HH.out.2.1]at q;exact q.mono λe w' z=>⟨z.1,h.next z.2⟩
   have CF2:Hid(∀W,Nt.Kw w #[.slice an n cn, .slice af m cf]W->Calls Tryz.prog 95 #[.agg #[.slice an n cn, .slice af m cf], .int .i64 2]W λe w'=>e= .returned(.int .i64 t)/\Hid(Nt.Kw w #[.slice an n cn, .slice af m cf]w')):=λW h=>by
    have q:=Tryz.rFirst_any 2 an cn d af m cf ns W(HHW.out W h).1.nds(HHW.out W h).1.nlen;rw [ht,HH.out.2.1]at q;exact q.mono λe w' z=>⟨z.1,h.next z.2⟩
   have HST:Hid(Nt.firstI ns 1=s/\Nt.firstI ns 2=t):=⟨hs,ht⟩
   have HFT:Hid(∀f,f∈fs->0<=f.fr/\f.fr<ns.length/\0<=f.to/\f.to<ns.length):=λf hf=>by
    have:=Nt.two_keeps(ns:=ns)(fs:=fs)(by rw [show Nt.wrong2 ns fs= []from HW2.out];rfl)f hf;exact⟨this.1,this.2.1,this.2.2.1,this.2.2.2.1⟩
   obtain⟨-,p0,p1⟩:=HHW.out wr HKJ.out;clear hs ht
   go_wp2_with fail
   refine Calls.mono(CF1.out wr HKJ.out) ?_;rintro e W3⟨rfl,K3⟩;clear p0 p1 CF1 HKJ;obtain⟨-,p0,p1⟩:=HHW.out W3 K3.out
   go_wp2_with fail
   refine Calls.mono(CF2.out W3 K3.out) ?_;rintro e W4⟨rfl,K4⟩;clear p0 p1 CF2 K3;obtain⟨-,p0,p1⟩:=HHW.out W4 K4.out;go_wp2;clear p0 p1
   go_loopg [61]n(λgk s61 wr=> ∃j:Nat,gk+j=n/\s61= .int .i64 j/\Hid(Nt.Kw w #[.slice an n cn, .slice af m cf]wr/\ ∀i(h:i<ns.length),i<j->Nt.jointB ns fs i=true))
   case atStart=>exact⟨0,by omega,rfl,K4.out,λi _ h=>by omega⟩
   case round=>
    obtain⟨j3,hj3,rfl,HM⟩:=hrel;clear K4
    by_cases hlt3:j3<n
    rotate_left
    ·have hd3:decide((j3:Int)<n)=false:=decide_eq_false(by omega)
     have HF3:Hid(((List.range ns.length).filter λi=> !Nt.jointB ns fs i)= []):=Nt.filter_none λi hi=>by rw [HM.out.2 i hi(by have:=HH.out.2.1;omega)];rfl
     obtain⟨-,p0,p1⟩:=HHW.out wr HM.out.1;have K2:Hid(Nt.Kw w #[.slice an n cn, .slice af m cf]wr):=HM.out.1;clear HM
     by_cases hlost:s<0∨t<0
     ·obtain⟨c0,c1⟩:=c
      have HE:Hid(3=c0/\n=c1):=by
       have hw:Nt.wrongAt ns fs 2= [n]:=by
        show Nt.wrong3 ns fs= [n];rw [Nt.wrong3,HF3.out,Nt.lostB,HST.out.1,HST.out.2,if_pos(by simp;exact hlost),HH.out.2.1];rfl
       have:=Nt.check_at(ns:=ns)(fs:=fs)(j:=2)(a:=n)(by omega)(λi hi=>by
        match i,hi with
        |0,_=>exact HW1.out
        |1,_=>exact HW2.out)(by rw [hw];simp)(by rw [hw];rfl)
       rw [HC.out]at this;exact⟨(congrArg Prod.fst this).symm,(congrArg Prod.snd this).symm⟩
      obtain⟨rfl,rfl⟩:=HE.out;have hans:=K2.out.ans
      obtain l1|⟨l1,l2⟩:decide(s<0)=true∨(decide(s<0)=false/\decide(t<0)=true):=by simp;omega
      all_goals
       clear HE hlost
       go_wp2_with(refine wpList_store_row rfl 120 _ _ rfl(w.heap.size+1) #[.int .i64 3, .int .i64(n:Int)]rfl rfl 120 #[.int .i64 0, .int .i64 0]hans(by kernel_rfl)rfl(by kernel_rfl) ?_)
       exact bodyPost_ret(v:= .agg #[.int .i64 3, .int .i64(n:Int)])(K2.out.ends 3 n _ rfl).1 rfl⟨rfl,(K2.out.ends 3 n #[undef,undef, .pointer(some⟨w.heap.size+1,0,none⟩)]rfl).2⟩
     have l1:decide(s<0)=false:=decide_eq_false(by omega);have l2:decide(t<0)=false:=decide_eq_false(by omega)
     have HW3:Hid(Nt.wrongAt ns fs 2= []):=by
      show Nt.wrong3 ns fs= [];rw [Nt.wrong3,HF3.out,Nt.lostB,HST.out.1,HST.out.2,if_neg(by simp;omega)];rfl
     obtain⟨sn,hsn⟩: ∃z:Nat,s=z:=⟨s.toNat,by omega⟩;obtain⟨tn,htn⟩: ∃z:Nat,t=z:=⟨t.toNat,by omega⟩;subst hsn;subst htn;have hsl:sn<ns.length:=by have:=Nt.firstI_lt ns 1;have:=HST.out.1;omega
     have htl:tn<ns.length:=by have:=Nt.firstI_lt ns 2;have:=HST.out.2;omega
     have CR:Hid(∀(a:Nat)(W:World),a<n->Nt.Kw w #[.slice an n cn, .slice af m cf]W->Calls Tryz.prog 97 #[.agg #[.slice an n cn, .slice af m cf], .int .i64 a]W λe w'=> ∃g,e= .returned(.slice(some⟨g,0,none⟩)n n)/\Hid(Below W.heap.size W w'/\g<w'.heap.size/\ ∀i,i<n->w'.cell? ⟨g,i,none⟩=some(.bool(Rk.met(Nt.edges fs)a i)))):=λa W ha h=>by
      have q:=Tryz.rReach_any a an cn af cf d ns fs W(HHW.out W h).1(by rw [HH.out.2.1];exact hn24)HFT.out(by rw [HH.out.2.1];exact ha);rw [HH.out.2.1,HH.out.2.2]at q;refine q.mono λe w'⟨g,he,_,hbt,hbb⟩=>⟨g,he,hbb,hbt.lt,λi hi=>hbt.cell i _(by simp [hi])⟩
     have hsn':sn<n:=by have:=HH.out.2.1;omega
     have htn':(tn:Int)<n:=by have:=HH.out.2.1;omega
     have htn0:(0:Int)<=tn:=by omega
     have htnn:tn<n:=by omega
     have HRB:Hid(∀i,Nt.roadB ns fs i=(Rk.met(Nt.edges fs)sn i&&Rk.met(Nt.edges fs)i tn)):=λi=>by
      unfold Nt.roadB;rw [HST.out.1,HST.out.2];rfl
     clear hlost HF3 hsl htl
     go_wp2_with fail
     refine Calls.mono(CR.out sn wr hsn' K2.out) ?_;rintro e W5⟨gs,rfl,B5⟩;have K5:Hid(Nt.Kw w #[.slice an n cn, .slice af m cf]W5):=K2.out.next B5.out.1;clear p0 p1;obtain⟨-,p0,p1⟩:=HHW.out W5 K5.out;go_wp2;clear p0 p1
     go_loopg [109]n(λgk s109 wr=> ∃j:Nat,gk+j=n/\s109= .int .i64 j/\Hid(Nt.Kw w #[.slice an n cn, .slice af m cf]wr/\Below W5.heap.size W5 wr/\ ∀i,i<j->Nt.roadB ns fs i=true))
     case atStart=>exact⟨0,by omega,rfl,K5.out,Below.refl _ _,λi h=>by omega⟩
     case round=>
      obtain⟨j4,hj4,rfl,HQ⟩:=hrel
      by_cases hlt4:j4<n
      rotate_left
      ·have hd4:decide((j4:Int)<n)=false:=decide_eq_false(by omega)
       obtain⟨c0,c1⟩:=c
       have HE:Hid(0=c0/\0=c1):=by
        have:=Nt.check_none(ns:=ns)(fs:=fs)(λi hi=>by
         match i,hi with
         |0,_=>exact HW1.out
         |1,_=>exact HW2.out
         |2,_=>exact HW3.out
         |3,_=>
          show Nt.wrong4 ns fs= []
          exact Nt.filter_none λi hi=>by rw [HQ.out.2.2 i(by have:=HH.out.2.1;omega)];rfl)
        rw [HC.out]at this;exact⟨(congrArg Prod.fst this).symm,(congrArg Prod.snd this).symm⟩
       obtain⟨rfl,rfl⟩:=HE.out;have hans:=HQ.out.1.ans;clear HE
       go_wp2_with(refine wpList_store_row rfl 120 _ _ rfl(w.heap.size+1) #[.int .i64 0, .int .i64 0]rfl rfl 120 #[.int .i64 0, .int .i64 0]hans(by kernel_rfl)rfl(by kernel_rfl) ?_)
       exact bodyPost_ret(v:= .agg #[.int .i64 0, .int .i64 0])(HQ.out.1.ends 0 0 _ rfl).1 rfl⟨rfl,(HQ.out.1.ends 0 0 #[undef,undef, .pointer(some⟨w.heap.size+1,0,none⟩)]rfl).2⟩
      have hd4:decide((j4:Int)<n)=true:=decide_eq_true(by omega);have hj4':(j4:Int)<n:=by omega
      have hj40:(0:Int)<=j4:=by omega
      obtain⟨-,p0,p1⟩:=HHW.out wr HQ.out.1
      go_wp2_with fail
      refine Calls.mono(CR.out j4 wr hlt4 HQ.out.1) ?_;rintro e W6⟨gb,rfl,B6⟩;have K2:Hid(Nt.Kw w #[.slice an n cn, .slice af m cf]W6):=HQ.out.1.next B6.out.1;have B56:Hid(Below W5.heap.size W5 W6):=HQ.out.2.1.trans(B6.out.1.mono HQ.out.2.1.size);have z1:W6.cell? ⟨gs,j4,none⟩=some(.bool(Rk.met(Nt.edges fs)sn j4)):=by rw [B56.out.cell(p:=⟨gs,j4,none⟩)B5.out.2.1];exact B5.out.2.2 j4 hlt4
      have z2:W6.cell? ⟨gb,tn,none⟩=some(.bool(Rk.met(Nt.edges fs)j4 tn)):=B6.out.2.2 tn htnn;have HRJ:Hid(Nt.roadB ns fs j4=(Rk.met(Nt.edges fs)sn j4&&Rk.met(Nt.edges fs)j4 tn)):=HRB.out j4;obtain⟨r1,hr1⟩: ∃z,Rk.met(Nt.edges fs)sn j4=z:=⟨_,rfl⟩;obtain⟨r2,hr2⟩: ∃z,Rk.met(Nt.edges fs)j4 tn=z:=⟨_,rfl⟩;rw [hr1]at z1 HRJ;rw [hr2]at z2 HRJ;clear p0 p1 B6 hr1 hr2
      by_cases hrr:(r1&&r2)=true
      ·obtain⟨rfl,rfl⟩:r1=true/\r2=true:=by simpa using hrr
       clear hrr;go_wp2;go_roundg(gk-1)
       case measure=>omega
       case rel=>
        refine⟨j4+1,by omega,by go_num,K2.out,B56.out,λi hij=> ?_⟩
        rcases Nat.lt_or_ge i j4 with h|h
        ·exact HQ.out.2.2 i h
        obtain rfl:i=j4:=by omega
        rw [HRJ.out];rfl
      obtain⟨c0,c1⟩:=c
      have HE:Hid(4=c0/\j4=c1):=by
       have hq:=Nt.head_filter(n:=ns.length)(p:=λi=> !Nt.roadB ns fs i)(k:=j4)(by rw [HH.out.2.1];exact hlt4)(by show(!Nt.roadB ns fs j4)=true;rw [HRJ.out];revert hrr;cases r1<;>cases r2<;>simp)(λi hi=>by show(!Nt.roadB ns fs i)=false;rw [HQ.out.2.2 i hi];rfl)
       have:=Nt.check_at(ns:=ns)(fs:=fs)(j:=3)(a:=j4)(by omega)(λi hi=>by
        match i,hi with
        |0,_=>exact HW1.out
        |1,_=>exact HW2.out
        |2,_=>exact HW3.out)hq.2 hq.1
       rw [HC.out]at this;exact⟨(congrArg Prod.fst this).symm,(congrArg Prod.snd this).symm⟩
      obtain⟨rfl,rfl⟩:=HE.out;have hans:=K2.out.ans;clear HE
      cases r1
      ·clear hrr
       go_wp2_with(refine wpList_store_row rfl 120 _ _ rfl(w.heap.size+1) #[.int .i64 4, .int .i64(j4:Int)]rfl rfl 120 #[.int .i64 0, .int .i64 0]hans(by kernel_rfl)rfl(by kernel_rfl) ?_)
       exact bodyPost_ret(v:= .agg #[.int .i64 4, .int .i64(j4:Int)])(K2.out.ends 4 j4 _ rfl).1 rfl⟨rfl,(K2.out.ends 4 j4 #[undef,undef, .pointer(some⟨w.heap.size+1,0,none⟩)]rfl).2⟩
      cases r2
      ·clear hrr
       go_wp2_with(refine wpList_store_row rfl 120 _ _ rfl(w.heap.size+1) #[.int .i64 4, .int .i64(j4:Int)]rfl rfl 120 #[.int .i64 0, .int .i64 0]hans(by kernel_rfl)rfl(by kernel_rfl) ?_)
       exact bodyPost_ret(v:= .agg #[.int .i64 4, .int .i64(j4:Int)])(K2.out.ends 4 j4 _ rfl).1 rfl⟨rfl,(K2.out.ends 4 j4 #[undef,undef, .pointer(some⟨w.heap.size+1,0,none⟩)]rfl).2⟩
      exact absurd rfl hrr
    have hd3:decide((j3:Int)<n)=true:=decide_eq_true(by omega);have hjl:j3<ns.length:=by rw [HH.out.2.1];exact hlt3
    obtain⟨g,off,u,rfl,hg,q0,q1,q2,q3,q4,hT⟩:=HH.out.1.nds j3 hjl;obtain⟨au,cu,rfl⟩:=hT.shape;obtain⟨x0,hx0⟩: ∃z,ns[j3].kind=z:=⟨_,rfl⟩;obtain⟨x1,hx1⟩: ∃z,ns[j3].a=z:=⟨_,rfl⟩;obtain⟨x2,hx2⟩: ∃z,ns[j3].t.op=z:=⟨_,rfl⟩;obtain⟨x3,hx3⟩: ∃z,ns[j3].t.num=z:=⟨_,rfl⟩;obtain⟨nu,hnu⟩: ∃z,ns[j3].t.ks.length=z:=⟨_,rfl⟩;rw [hx0]at q0;rw [hx1]at q1;rw [hx2]at q2;rw [hx3]at q3;rw [hnu]at q4;have hcc: ∀o,wr.cell? ⟨g,o,none⟩=w.cell? ⟨g,o,none⟩:=λo=>HM.out.1.below.cell(p:=⟨g,o,none⟩)hg;have d0:=(hcc _).trans q0;have d1:=(hcc _).trans q1;have d2:=(hcc _).trans q2;have d3:=(hcc _).trans q3;have d4:=(hcc _).trans q4;have hu:=Tryz.underlying76;obtain⟨W0,hW0⟩: ∃z,wr.alloc(.cells #[.int .i64 x0, .int .i64 x1, .int .i64 x2, .int .i64 x3, .slice au nu cu]76)=z:=⟨_,rfl⟩;have K0:Nt.Kw w #[.slice(some⟨g,off,none⟩)n cn, .slice af m cf]W0:=by rw [<-hW0];exact HM.out.1.alloc _
    have G0:W0.heap[wr.heap.size]? =some(.cells #[.int .i64 x0, .int .i64 x1, .int .i64 x2, .int .i64 x3, .slice au nu cu]76(0,0)):=by rw [<-hW0];exact heap_alloc_new wr _
    have hcall:=Tryz.rthree_any j3(some⟨g,off,none⟩)cn af cf d ns fs W0(HHW.out W0 K0).1(λf hf=>(HFT.out f hf).2.2)hjl;obtain⟨b,hb⟩: ∃z,Nt.threeB ns fs j3=z:=⟨_,rfl⟩;rw [hb,HH.out.2.1,HH.out.2.2]at hcall;have hje:=Nt.joint_eq(ns:=ns)(fs:=fs)hjl;rw [hb,hx0,HST.out.1,HST.out.2]at hje;have HJE:Hid _:=hje;have HCL:Hid _:=hcall;have HW0:Hid(wr.alloc(.cells #[.int .i64 x0, .int .i64 x1, .int .i64 x2, .int .i64 x3, .slice au nu cu]76)=W0):=hW0;have HK0:Hid(Nt.Kw w #[.slice(some⟨g,off,none⟩)n cn, .slice af m cf]W0/\W0.heap[wr.heap.size]? =some(.cells #[.int .i64 x0, .int .i64 x1, .int .i64 x2, .int .i64 x3, .slice au nu cu]76(0,0))):=⟨K0,G0⟩;obtain⟨-,p0,p1⟩:=HHW.out wr HM.out.1;have hbl:w.heap.size<wr.heap.size:=Nt.lt_of HM.out.1.box;clear hcall hcc q0 q1 q2 q3 q4 hT hx0 hx1 hx2 hx3 hnu hg hW0 K0 G0 hb hje
    go_wp2_with fail
    rw [HW0.out];refine Calls.mono HCL.out ?_;rintro e W2⟨rfl,hb2⟩;have K2:Hid(Nt.Kw w #[.slice(some⟨g,off,none⟩)n cn, .slice af m cf]W2):=HK0.out.1.next hb2
    have hkc:W2.cell? ⟨wr.heap.size,0,none⟩=some(.int .i64 x0):=by
     have:W2.heap[wr.heap.size]? =some(.cells #[.int .i64 x0, .int .i64 x1, .int .i64 x2, .int .i64 x3, .slice au nu cu]76(0,0)):=by rw [hb2.block _(Nt.lt_of HK0.out.2)];exact HK0.out.2
     simp [World.cell?,this]
    clear hb2 HCL HW0 d0 d1 d2 d3 d4 p0 p1 HK0
    cases b with
    |false=>
     have HJB:Hid((!Nt.jointB ns fs j3)=true):=by show _=_;rw [HJE.out];rfl
     clear HJE;obtain⟨c0,c1⟩:=c
     have HE:Hid(3=c0/\j3=c1):=by
      have hq:=Nt.head_filter(n:=ns.length)(p:=λi=> !Nt.jointB ns fs i)(k:=j3)hjl(by show(!Nt.jointB ns fs j3)=true;exact HJB.out)(λi hi=>by show(!Nt.jointB ns fs i)=false;rw [HM.out.2 i(by omega)hi];rfl);have hw:Nt.wrongAt ns fs 2=((List.range ns.length).filter λi=> !Nt.jointB ns fs i)++(if Nt.lostB ns=true then [ns.length]else []):=rfl
      have:=Nt.check_at(ns:=ns)(fs:=fs)(j:=2)(a:=j3)(by omega)(λi hi=>by
       match i,hi with
       |0,_=>exact HW1.out
       |1,_=>exact HW2.out)(by rw [hw];intro h;exact hq.2(List.append_eq_nil_iff.1 h).1)(by
       rw [hw];obtain⟨a,l,he⟩:=List.exists_cons_of_ne_nil hq.2;have h1:=hq.1;rw [he]at h1⊢
       simpa using h1)
      rw [HC.out]at this;exact⟨(congrArg Prod.fst this).symm,(congrArg Prod.snd this).symm⟩
     obtain⟨rfl,rfl⟩:=HE.out;have hans:=K2.out.ans;clear HE
     go_upto_region 21 with fail
     go_wp2_with(refine wpList_store_row rfl 120 _ _ rfl(w.heap.size+1) #[.int .i64 3, .int .i64(j3:Int)]rfl rfl 120 #[.int .i64 0, .int .i64 0]hans(by kernel_rfl)rfl(by kernel_rfl) ?_)
     exact bodyPost_ret(v:= .agg #[.int .i64 3, .int .i64(j3:Int)])(K2.out.ends 3 j3 _ rfl).1 rfl⟨rfl,(K2.out.ends 3 j3 #[undef,undef, .pointer(some⟨w.heap.size+1,0,none⟩)]rfl).2⟩
    |true=>
     by_cases k1:x0=1
     ·subst k1
      by_cases hgt:s<(j3:Int)
      rotate_left
      ·have e1:decide(s<(j3:Int))=false:=decide_eq_false hgt
       have HJB:Hid((!Nt.jointB ns fs j3)=false):=by show _=_;rw [HJE.out,e1];rfl
       clear HJE hgt;go_wp2;go_roundg(gk-1)
       case measure=>omega
       case rel=>
        refine⟨j3+1,by omega,by go_num,K2.out,λi hi hij=> ?_⟩
        rcases Nat.lt_or_ge i j3 with h|h
        ·exact HM.out.2 i hi h
        obtain rfl:i=j3:=by omega
        simpa using HJB.out
      have e1:decide(s<(j3:Int))=true:=decide_eq_true hgt;have HJB:Hid((!Nt.jointB ns fs j3)=true):=by show _=_;rw [HJE.out,e1];rfl
      clear HJE hgt;obtain⟨c0,c1⟩:=c
      have HE:Hid(3=c0/\j3=c1):=by
       have hq:=Nt.head_filter(n:=ns.length)(p:=λi=> !Nt.jointB ns fs i)(k:=j3)hjl(by show(!Nt.jointB ns fs j3)=true;exact HJB.out)(λi hi=>by show(!Nt.jointB ns fs i)=false;rw [HM.out.2 i(by omega)hi];rfl);have hw:Nt.wrongAt ns fs 2=((List.range ns.length).filter λi=> !Nt.jointB ns fs i)++(if Nt.lostB ns=true then [ns.length]else []):=rfl
       have:=Nt.check_at(ns:=ns)(fs:=fs)(j:=2)(a:=j3)(by omega)(λi hi=>by
        match i,hi with
        |0,_=>exact HW1.out
        |1,_=>exact HW2.out)(by rw [hw];intro h;exact hq.2(List.append_eq_nil_iff.1 h).1)(by
        rw [hw];obtain⟨a,l,he⟩:=List.exists_cons_of_ne_nil hq.2;have h1:=hq.1;rw [he]at h1⊢
        simpa using h1)
       rw [HC.out]at this;exact⟨(congrArg Prod.fst this).symm,(congrArg Prod.snd this).symm⟩
      obtain⟨rfl,rfl⟩:=HE.out;have hans:=K2.out.ans;clear HE
      go_upto_region 21 with fail
      go_wp2_with(refine wpList_store_row rfl 120 _ _ rfl(w.heap.size+1) #[.int .i64 3, .int .i64(j3:Int)]rfl rfl 120 #[.int .i64 0, .int .i64 0]hans(by kernel_rfl)rfl(by kernel_rfl) ?_)
      exact bodyPost_ret(v:= .agg #[.int .i64 3, .int .i64(j3:Int)])(K2.out.ends 3 j3 _ rfl).1 rfl⟨rfl,(K2.out.ends 3 j3 #[undef,undef, .pointer(some⟨w.heap.size+1,0,none⟩)]rfl).2⟩
     have f1:(x0==1)=false:=by simpa using k1
     by_cases k2:x0=2
     rotate_left
     ·have f2:(x0==2)=false:=by simpa using k2
      have HJB:Hid((!Nt.jointB ns fs j3)=false):=by show _=_;rw [HJE.out,decide_eq_false k1,decide_eq_false k2];rfl
      clear HJE k1 k2;go_wp2;go_roundg(gk-1)
      case measure=>omega
      case rel=>
       refine⟨j3+1,by omega,by go_num,K2.out,λi hi hij=> ?_⟩
       rcases Nat.lt_or_ge i j3 with h|h
       ·exact HM.out.2 i hi h
       obtain rfl:i=j3:=by omega
       simpa using HJB.out
     subst k2
     by_cases hgt:t<(j3:Int)
     rotate_left
     ·have e1:decide(t<(j3:Int))=false:=decide_eq_false hgt
      have HJB:Hid((!Nt.jointB ns fs j3)=false):=by show _=_;rw [HJE.out,e1];rfl
      clear HJE hgt k1;go_wp2;go_roundg(gk-1)
      case measure=>omega
      case rel=>
       refine⟨j3+1,by omega,by go_num,K2.out,λi hi hij=> ?_⟩
       rcases Nat.lt_or_ge i j3 with h|h
       ·exact HM.out.2 i hi h
       obtain rfl:i=j3:=by omega
       simpa using HJB.out
     have e1:decide(t<(j3:Int))=true:=decide_eq_true hgt;have HJB:Hid((!Nt.jointB ns fs j3)=true):=by show _=_;rw [HJE.out,e1];rfl
     clear HJE hgt k1;obtain⟨c0,c1⟩:=c
     have HE:Hid(3=c0/\j3=c1):=by
      have hq:=Nt.head_filter(n:=ns.length)(p:=λi=> !Nt.jointB ns fs i)(k:=j3)hjl(by show(!Nt.jointB ns fs j3)=true;exact HJB.out)(λi hi=>by show(!Nt.jointB ns fs i)=false;rw [HM.out.2 i(by omega)hi];rfl);have hw:Nt.wrongAt ns fs 2=((List.range ns.length).filter λi=> !Nt.jointB ns fs i)++(if Nt.lostB ns=true then [ns.length]else []):=rfl
      have:=Nt.check_at(ns:=ns)(fs:=fs)(j:=2)(a:=j3)(by omega)(λi hi=>by
       match i,hi with
       |0,_=>exact HW1.out
       |1,_=>exact HW2.out)(by rw [hw];intro h;exact hq.2(List.append_eq_nil_iff.1 h).1)(by
       rw [hw];obtain⟨a,l,he⟩:=List.exists_cons_of_ne_nil hq.2;have h1:=hq.1;rw [he]at h1⊢
       simpa using h1)
      rw [HC.out]at this;exact⟨(congrArg Prod.fst this).symm,(congrArg Prod.snd this).symm⟩
     obtain⟨rfl,rfl⟩:=HE.out;have hans:=K2.out.ans;clear HE
     go_upto_region 21 with fail
     go_wp2_with(refine wpList_store_row rfl 120 _ _ rfl(w.heap.size+1) #[.int .i64 3, .int .i64(j3:Int)]rfl rfl 120 #[.int .i64 0, .int .i64 0]hans(by kernel_rfl)rfl(by kernel_rfl) ?_)
     exact bodyPost_ret(v:= .agg #[.int .i64 3, .int .i64(j3:Int)])(K2.out.ends 3 j3 _ rfl).1 rfl⟨rfl,(K2.out.ends 3 j3 #[undef,undef, .pointer(some⟨w.heap.size+1,0,none⟩)]rfl).2⟩
end Go.Proofs
