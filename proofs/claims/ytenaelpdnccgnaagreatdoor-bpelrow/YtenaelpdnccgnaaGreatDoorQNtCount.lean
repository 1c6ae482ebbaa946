import Derived.Test.YtenaelpdnccgnaaGreatDoorQAllTRefChk
import Derived.Test.YtenaelpdnccgnaaGreatDoorQAcModel
set_option maxRecDepth 100000
set_option maxHeartbeats 32000000
namespace Go.Proofs
open Go.RowKit Go.Shelf
def Nt.Joints (cs:Array Value)(fs:List Fl)(n:Nat):Prop:=cs.size=72/\cs.all (·.oneCell')=true/\∀i:Nat,i<n->cs[i*3]? =some (.int .i64 (Nt.insN fs i))/\cs[i*3+1]? =some (.int .i64 (Nt.outsN fs i))/\cs[i*3+2]? =some (.int .i64 (Nt.elsesN fs i))
structure Nt.Cw (w:World)(box cs:Array Value)(W:World):Prop where
 below:Below w.heap.size w W
 c0:W.heap[w.heap.size]? =some (.cells box 30 (0,0))
 c1:W.heap[w.heap.size+1]? =some (.cells Tryz.zeroCells167 167 (0,0))
 c2:W.heap[w.heap.size+1+1]? =some (.cells cs 167 (0,0))
theorem Nt.lt_of {W:World}{g:Nat}{o:Obj}(h:W.heap[g]? =some o):g<W.heap.size:=(Array.getElem?_eq_some_iff.1 h).1
theorem Nt.Cw.next {w:World}{box cs:Array Value}{W W':World}(h:Nt.Cw w box cs W)(hb:Below W.heap.size W W'):Nt.Cw w box cs W':=
 ⟨h.below.trans (hb.mono h.below.size),by rw[hb.block _ (Nt.lt_of h.c0)];exact h.c0,by rw[hb.block _ (Nt.lt_of h.c1)];exact h.c1,by rw[hb.block _ (Nt.lt_of h.c2)];exact h.c2⟩
theorem Nt.Cw.put {w:World}{box cs:Array Value}{W:World}(h:Nt.Cw w box cs W)(j:Nat)(v:Value):Nt.Cw w box (cs.setIfInBounds j v) (W.setCell ⟨w.heap.size+1+1,j,none⟩ v):=by
 refine⟨h.below.setCell (p:=⟨w.heap.size+1+1,j,none⟩) (by show w.heap.size<=w.heap.size+1+1;omega) _, ?_, ?_, ?_⟩
 ·rw[Below.heap_setCell _ _ _ _ (by show w.heap.size≠w.heap.size+1+1;omega)];exact h.c0
 ·rw[Below.heap_setCell _ _ _ _ (by show w.heap.size+1≠w.heap.size+1+1;omega)];exact h.c1
 have:=h.c2;simp[World.setCell,Array.getElem?_modify,this]
theorem Nt.Cw.cell {w:World}{box cs:Array Value}{W:World}(h:Nt.Cw w box cs W)(j:Nat)(v:Value)(hj:cs[j]? =some v):W.cell? ⟨w.heap.size+1+1,j,none⟩=some v:=by
 have:=h.c2;simp[World.cell?,this,hj]
theorem Nt.Cw.frozen {w:World}{box cs:Array Value}{W:World}(h:Nt.Cw w box cs W)(j:Nat):W.frozen? ⟨w.heap.size+1+1,j,none⟩=false:=by
 have:=h.c2;simp[World.frozen?,this]
theorem Nt.all_set {cs:Array Value}(h:cs.all (·.oneCell')=true)(j:Nat)(v:Value)(hv:v.oneCell'=true):(cs.setIfInBounds j v).all (·.oneCell')=true:=by
 rw[Array.all_eq_true_iff_forall_mem]at*;intro x hx;rw[Array.mem_iff_getElem?]at hx;obtain⟨i,hi⟩:=hx;rw[Array.getElem?_setIfInBounds]at hi
 split at hi
 ·split at hi
  ·simp at hi;rw[<-hi];exact hv
  simp at hi
 exact h x (Array.mem_of_getElem? hi)
def Nt.jstep (n:Nat)(f:Fl)(cs:Array Value)(x y:Nat)(o e i:Nat):Array Value:=
 let c1:=if Nt.isNodeB n f.fr=true then(let c:=cs.setIfInBounds (x*3+1) (.int .i64 ((o+1:Nat):Int));if f.els=true then c.setIfInBounds (x*3+2) (.int .i64 ((e+1:Nat):Int))else c)else cs
 if Nt.isNodeB n f.to=true then c1.setIfInBounds (y*3) (.int .i64 ((i+1:Nat):Int))else c1
theorem Nt.countP_snoc {p:Fl->Bool}(l:List Fl)(f:Fl):(l++ [f]).countP p=l.countP p+if p f=true then 1 else 0:=by
 rw[List.countP_append,List.countP_singleton]
theorem Nt.Joints.step {n:Nat}{fs:List Fl}{f:Fl}{cs:Array Value}(h:Nt.Joints cs fs n)(hn:n<=24)(x y:Nat)(hx:Nt.isNodeB n f.fr=true->f.fr=x)(hy:Nt.isNodeB n f.to=true->f.to=y):
  Nt.Joints (Nt.jstep n f cs x y (Nt.outsN fs x) (Nt.elsesN fs x) (Nt.insN fs y)) (fs++ [f]) n:=by
 obtain⟨hs,ha,hc⟩:=h;refine⟨?_, ?_,λj hj=> ?_⟩
 ·unfold Nt.jstep;dsimp only;(repeat' split)<;>simp[hs]
 ·unfold Nt.jstep;dsimp only;(repeat' split)<;>(repeat' apply Nt.all_set)<;>first|exact ha|rfl
 obtain⟨g0,g1,g2⟩:=hc j hj;have hno:∀z:Int,Nt.isNodeB n z=false->z≠(j:Int):=λz hz he=>by simp[Nt.isNodeB,he]at hz;omega
 have e0:Nt.insN (fs++ [f]) j=Nt.insN fs j+if f.to=(j:Int)then 1 else 0:=by unfold Nt.insN;rw[Nt.countP_snoc];simp
 have e1:Nt.outsN (fs++ [f]) j=Nt.outsN fs j+if f.fr=(j:Int)then 1 else 0:=by unfold Nt.outsN;rw[Nt.countP_snoc];simp
 have e2:Nt.elsesN (fs++ [f]) j=Nt.elsesN fs j+if f.fr=(j:Int)/\f.els=true then 1 else 0:=by unfold Nt.elsesN;rw[Nt.countP_snoc];simp
 rw[e0,e1,e2];have sz:∀k,k<3->j*3+k<cs.size:=λk hk=>by rw[hs];omega
 unfold Nt.jstep;dsimp only
 cases h1:Nt.isNodeB n f.fr<;>cases h2:Nt.isNodeB n f.to<;>cases h3:f.els
 all_goals simp only[Bool.false_eq_true,if_false,if_true,and_false,and_true]
 all_goals
  first
  |(have hf:=hx h1;by_cases hxj:x=j) 
  |(have hf:=hno _ h1;have hxj:True:=trivial)
 all_goals
  first
  |(have hf2:=hy h2;by_cases hyj:y=j)
  |(have hf2:=hno _ h2;have hyj:True:=trivial)
 all_goals
  have d1:∀a b:Nat,¬a*3=b*3+1:=λa b=>by omega
  have d2:∀a b:Nat,¬a*3=b*3+2:=λa b=>by omega
  have d3:∀a b:Nat,¬a*3+1=b*3:=λa b=>by omega
  have d4:∀a b:Nat,¬a*3+2=b*3:=λa b=>by omega
  have d5:∀a b:Nat,¬a*3+1=b*3+2:=λa b=>by omega
  have d6:∀a b:Nat,¬a*3+2=b*3+1:=λa b=>by omega
  have d7:∀a b:Nat,(a*3=b*3)=(a=b):=λa b=>by rw[eq_iff_iff];omega
  have d8:∀a:Nat,((a:Int)=(j:Int))=(a=j):=λa=>by rw[eq_iff_iff];omega
  have q0:j*3<72:=by omega
  have q1:j*3+1<72:=by omega
  have q2:j*3+2<72:=by omega
  obtain⟨_,g0'⟩:=Array.getElem?_eq_some_iff.1 g0;obtain⟨_,g1'⟩:=Array.getElem?_eq_some_iff.1 g1;obtain⟨_,g2'⟩:=Array.getElem?_eq_some_iff.1 g2;clear hc hno e0 e1 e2 sz hx hy ha
  first
  |(subst hxj;subst hyj)
  |subst hxj
  |subst hyj
  |skip
  simp[*]
theorem Nt.box2 {W:World}{b:Nat}{v u:Value}{t:TypeId}(h:W.heap[b]? =some (.cells #[v,u] t (0,0))):W.cell? ⟨b,0,none⟩=some v/\W.cell? ⟨b,1,none⟩=some u:=⟨by simp[World.cell?,h],by simp[World.cell?,h]⟩
def Nt.Fb (b:Nat)(f:Fl)(v:Value)(W:World):Prop:=W.heap[b]? =some (.cells #[.int .i64 f.fr,.int .i64 f.to,.bool f.els,.int .i64 f.c.op,.int .i64 f.c.num,v] 64 (0,0))
theorem Tryz.count_any (an:Option Addr)(n cn:Nat)(af:Option Addr)(cf d:Nat)(fs:List Fl)(w:World)(hF:Nt.Fls w w.heap.size d af fs)(hl:fs.length<=100)(hn:n<=24):
  Calls Tryz.prog 128 #[.agg #[.slice an n cn,.slice af fs.length cf]] w λe w'=>∃cs,e=.returned (.agg cs)/\Nt.Joints cs fs n/\Below w.heap.size w w':=by
 obtain⟨m,hm⟩:=pE (fs.length);rw[hm]at hl⊢;obtain⟨w1,hw1⟩:=pE (((w.alloc (.cells #[.slice an n cn,.slice af m cf] 30)).alloc (.cells Tryz.zeroCells167 167)).alloc (.cells Tryz.zeroCells167 167))
 have C1:Nt.Cw w #[.slice an n cn,.slice af m cf] Tryz.zeroCells167 w1:=by
  rw[<-hw1];refine⟨(((Below.refl _ w).alloc (Nat.le_refl _) _).alloc (by simp) _).alloc (by simp;omega) _, ?_, ?_, ?_⟩
  ·rw[Below.heap_alloc _ _ _ (by simp;omega),Below.heap_alloc _ _ _ (by simp)];exact heap_alloc_new w _
  ·rw[Below.heap_alloc _ _ _ (by simp)]
   have:=heap_alloc_new (w.alloc (.cells #[.slice an n cn,.slice af m cf] 30)) (.cells Tryz.zeroCells167 167);simpa using this
  have:=heap_alloc_new ((w.alloc (.cells #[.slice an n cn,.slice af m cf] 30)).alloc (.cells Tryz.zeroCells167 167)) (.cells Tryz.zeroCells167 167);simpa using this
 have J1:Nt.Joints Tryz.zeroCells167 [] n:=by
  refine⟨by kernel_rfl,by kernel_rfl,λi hi=> ?_⟩;have hz:Tryz.zeroCells167=Array.replicate 72 (.int .i64 0):=by kernel_rfl
  rw[hz];simp[Nt.insN,Nt.outsN,Nt.elsesN,Array.getElem?_replicate];omega
 have HF:Hid (Nt.Fls w w.heap.size d af fs/\fs.length=m):=⟨hF,hm⟩;have H1:Hid (((w.alloc (.cells #[.slice an n cn,.slice af m cf] 30)).alloc (.cells Tryz.zeroCells167 167)).alloc (.cells Tryz.zeroCells167 167)=w1):=hw1;have HC1:Hid (Nt.Cw w #[.slice an n cn,.slice af m cf] Tryz.zeroCells167 w1/\Nt.Joints Tryz.zeroCells167 [] n):=⟨C1,J1⟩;clear hF hm hw1 C1 J1
 go_enter Tryz.func128,Tryz.ntmps128
 go_wp2;rw[H1.out]
 go_loopg [9] m (λgk s9 wr=>∃(k:Nat) (cs:Array Value),gk+k=m/\s9=.int .i64 k/\Hid (Nt.Cw w #[.slice an n cn,.slice af m cf] cs wr/\Nt.Joints cs (fs.take k) n))
 case atStart=>exact⟨0,_,by omega,rfl,HC1.out.1,by simpa using HC1.out.2⟩
 case round=>
  obtain⟨k,cs,hk,rfl,HI⟩:=hrel;clear H1 HC1
  by_cases hlt:k<m
  rotate_left
  ·have hd:decide ((k:Int)<m)=false:=decide_eq_false (by omega)
   have hu:=Tryz.underlying167;have hj:=HI.out.2;rw[List.take_of_length_le (by rw[HF.out.2];omega)]at hj;have hc1:=HI.out.1.c1;have hc2:=HI.out.1.c2;have hi:(Tryz.prog.info? 167).map (·.size)=some cs.size:=by rw[hj.1];kernel_rfl
   have hi1:Tryz.zeroCells167.size=cs.size:=by rw[hj.1];kernel_rfl
   have HJ:Hid (Nt.Joints cs fs n):=hj;clear hj
   go_wp2_with (first
    |refine wpList_load_row rfl 167 _ rfl _ rfl 167 cs (0,0) _ hc2 hu rfl hi ?_
    |refine wpList_store_row rfl 167 _ _ rfl (w.heap.size+1) cs rfl rfl 167 Tryz.zeroCells167 hc1 hi hi1 HJ.out.2.1 ?_)
   refine bodyPost_ret (v:=.agg cs) (results_cell_row Tryz.results128 _ _ (w.heap.size+1) 167 cs (0,0) _ rfl (setRow_heap _ _ _ _ _ _ hc1) hu rfl hi) rfl ⟨cs,rfl,HJ.out, ?_⟩;exact Tk.below_row HI.out.1.below (by omega) _
  have hd:decide ((k:Int)<m)=true:=decide_eq_true (by omega);have hkl:k<fs.length:=by rw[HF.out.2];exact hlt
  obtain⟨q,off,u,rfl,hq,h0,h1,h2,h3,h4,h5,h6⟩:=HF.out.1 k hkl;obtain⟨au,cu,rfl⟩:=h6.shape;obtain⟨f,hf⟩:=pE (fs[k]);rw[hf]at h0 h1 h2 h3 h4 h5;obtain⟨nu,hnu⟩:=pE (f.c.ks.length);rw[hnu]at h5;obtain⟨fr,hfr⟩:=pE (f.fr);obtain⟨tt,hto⟩:=pE (f.to);obtain⟨els,hel⟩:=pE (f.els);obtain⟨op,hop⟩:=pE (f.c.op);obtain⟨num,hnum⟩:=pE (f.c.num);rw[hfr]at h0;rw[hto]at h1;rw[hel]at h2;rw[hop]at h3;rw[hnum]at h4;have hqs:q<w.heap.size:=hq;have hc:∀o,wr.cell? ⟨q,o,none⟩=w.cell? ⟨q,o,none⟩:=λo=>HI.out.1.below.cell (p:=⟨q,o,none⟩) hqs;have c0:=(hc _).trans h0;have c1:=(hc _).trans h1;have c2:=(hc _).trans h2;have c3:=(hc _).trans h3;have c4:=(hc _).trans h4;have c5:=(hc _).trans h5;have hu:=Tryz.underlying64;have HX:Hid (fs[k]=f/\f.fr=fr/\f.to=tt/\f.els=els):=⟨hf,hfr,hto,hel⟩;obtain⟨W0,hW0⟩:=pE (wr.alloc (.cells #[.int .i64 fr,.int .i64 tt,.bool els,.int .i64 op,.int .i64 num,.slice au nu cu] 64));have A0:=pB hW0
  have F0:W0.heap[wr.heap.size]? =some (.cells #[.int .i64 fr,.int .i64 tt,.bool els,.int .i64 op,.int .i64 num,.slice au nu cu] 64 (0,0)):=by rw[<-hW0];exact heap_alloc_new wr _
  have W0C:=HI.out.1.next A0;have HCW0:Hid (Nt.Cw w #[.slice an n cn,.slice (some ⟨q,off,none⟩) m cf] cs W0):=W0C;have HF0:Hid _:=F0;have HW0:Hid (wr.alloc (.cells #[.int .i64 fr,.int .i64 tt,.bool els,.int .i64 op,.int .i64 num,.slice au nu cu] 64)=W0):=hW0;have CI:Hid _:=Tryz.isNode_any fr an n cn (some ⟨q,off,none⟩) m cf W0;obtain⟨k0,k1⟩:=Nt.box2 W0C.c0;obtain⟨g0,g1⟩:=Nt.box2 HI.out.1.c0;have hbne:w.heap.size<wr.heap.size:=Nt.lt_of HI.out.1.c0;have hbne2:w.heap.size+1+1<wr.heap.size:=Nt.lt_of HI.out.1.c2;clear h0 h1 h2 h3 h4 h5 h6 hc hf hfr hto hel hop hnum hnu hq hqs A0 F0 W0C hW0;obtain⟨bf,hbf⟩:=pE (Nt.isNodeB n fr);obtain⟨bt,hbt⟩:=pE (Nt.isNodeB n tt);rw[hbf]at CI;have HB:Hid (Nt.isNodeB n fr=bf):=hbf;have HT:Hid (Nt.isNodeB n tt=bt):=hbt;clear hbf hbt
  go_wp2_with fail
  rw[HW0.out];refine Calls.mono CI.out ?_;rintro e W1 ⟨rfl,hb1⟩;have CW1:Hid (Nt.Cw w #[.slice an n cn,.slice (some ⟨q,off,none⟩) m cf] cs W1):=HCW0.out.next hb1
  have F1:Hid (W1.heap[wr.heap.size]? =some (.cells #[.int .i64 fr,.int .i64 tt,.bool els,.int .i64 op,.int .i64 num,.slice au nu cu] 64 (0,0))):=by
   show W1.heap[wr.heap.size]? =_;rw[hb1.block _ (Nt.lt_of HF0.out)];exact HF0.out
  have f0:W1.cell? ⟨wr.heap.size,0,none⟩=some (.int .i64 fr):=by have:=F1.out;simp[World.cell?,this]
  have f1:W1.cell? ⟨wr.heap.size,1,none⟩=some (.int .i64 tt):=by have:=F1.out;simp[World.cell?,this]
  have f2:W1.cell? ⟨wr.heap.size,2,none⟩=some (.bool els):=by have:=F1.out;simp[World.cell?,this]
  obtain⟨p0,p1⟩:=Nt.box2 CW1.out.c0;have hne1:¬wr.heap.size=w.heap.size+1+1:=by omega
  have hne2:¬w.heap.size+1+1=wr.heap.size:=by omega
  have hne3:¬w.heap.size=w.heap.size+1+1:=by omega
  clear hb1 CI HW0 HCW0 HF0 k0 k1 g0 g1 c0 c1 c2 c3 c4 c5 hbne hbne2
  cases bf with
  |false=>
   have HWX:Hid (W1=W1):=rfl;have CWX:Hid (Nt.Cw w #[.slice an n cn,.slice (some ⟨q,off,none⟩) m cf] cs W1):=CW1.out;have FX:Hid _:=F1.out
   have CI2:Hid (Calls Tryz.prog 130 #[.agg #[.slice an n cn,.slice (some ⟨q,off,none⟩) m cf],.int .i64 tt] W1 λe w'=>e=.returned (.bool bt)/\Below W1.heap.size W1 w'):=by
    have h:=Tryz.isNode_any tt an n cn (some ⟨q,off,none⟩) m cf W1;rw[HT.out]at h;exact h
   go_wp2_with fail
   refine Calls.mono CI2.out ?_;rintro e W2 ⟨rfl,hb2⟩;have CW2:Hid (Nt.Cw w #[.slice an n cn,.slice (some ⟨q,off,none⟩) m cf] cs W2):=CWX.out.next hb2
   have F2:Hid (W2.heap[wr.heap.size]? =some (.cells #[.int .i64 fr,.int .i64 tt,.bool els,.int .i64 op,.int .i64 num,.slice au nu cu] 64 (0,0))):=by
    show W2.heap[wr.heap.size]? =_;rw[hb2.block _ (Nt.lt_of FX.out)];exact FX.out
   have z1:W2.cell? ⟨wr.heap.size,1,none⟩=some (.int .i64 tt):=by have:=F2.out;simp[World.cell?,this]
   clear hb2 CI2
   cases bt with
   |true=>
    obtain⟨y,hy⟩:∃y:Nat,tt=y:=⟨tt.toNat,by have:=HT.out;simp[Nt.isNodeB]at this;omega⟩;have hyn:y<n:=by have:=HT.out;simp[Nt.isNodeB]at this;omega
    subst hy;have hy24:(y:Int)<24:=by omega
    have hy0:(0:Int)<=y:=by omega
    obtain⟨i,hi⟩:=pE (Nt.insN (fs.take k) y);have hi100:i<=100:=by rw[<-hi];unfold Nt.insN;have:=List.countP_le_length (l:=fs.take k) (p:=λf=>decide (f.to=(y:Int)));rw[List.length_take]at this;omega
    have hwi:IntKind.i64.wrap ((i:Int)+1)=((i+1:Nat):Int):=by rw[IntKind.wrap_i64];omega
    have cy:cs[y*3]? =some (.int .i64 (i:Int)):=by rw[<-hi];exact(HI.out.2.2.2 y hyn).1
    have cz:=CW2.out.cell (y*3) _ cy;have cf1:=CW2.out.frozen (y*3);have W3:Hid (Nt.Cw w #[.slice an n cn,.slice (some ⟨q,off,none⟩) m cf] (cs.setIfInBounds (y*3) (.int .i64 ((i+1:Nat):Int))) (W2.setCell ⟨w.heap.size+1+1,y*3,none⟩ (.int .i64 ((i+1:Nat):Int)))):=CW2.out.put _ _
    have HJ:Hid (Nt.Joints (cs.setIfInBounds (y*3) (.int .i64 ((i+1:Nat):Int))) (fs.take (k+1)) n):=by
     show Nt.Joints _ _ _;rw[Tm.take_snoc _ _ hkl,HX.out.1];have h:=Nt.Joints.step (f:=f) HI.out.2 hn 0 y (λh=>by rw[HX.out.2.1]at h⊢;rw[HB.out]at h;cases h) (λ_=>HX.out.2.2.1);unfold Nt.jstep at h;rw[HX.out.2.1,HX.out.2.2.1,HX.out.2.2.2,HB.out,HT.out,hi]at h;simpa []using h
    clear cy hi;go_wp2;go_roundg (gk-1)
    case measure=>omega
    case rel=>exact⟨k+1,_,by omega,by go_num,W3.out,HJ.out⟩
   |false=>
    have HJ:Hid (Nt.Joints cs (fs.take (k+1)) n):=by
     show Nt.Joints _ _ _;rw[Tm.take_snoc _ _ hkl,HX.out.1];have h:=Nt.Joints.step (f:=f) HI.out.2 hn 0 0 (λh=>by rw[HX.out.2.1]at h⊢;rw[HB.out]at h;cases h) (λh=>by rw[HX.out.2.2.1,HT.out]at h;cases h);unfold Nt.jstep at h;rw[HX.out.2.1,HX.out.2.2.1,HX.out.2.2.2,HB.out,HT.out]at h;simpa []using h
    go_wp2;go_roundg (gk-1)
    case measure=>omega
    case rel=>exact⟨k+1,_,by omega,by go_num,CW2.out,HJ.out⟩
  |true=>
   obtain⟨x,hx⟩:∃x:Nat,fr=x:=⟨fr.toNat,by have:=HB.out;simp[Nt.isNodeB]at this;omega⟩;have hxn:x<n:=by have:=HB.out;simp[Nt.isNodeB]at this;omega
   subst hx;have hx24:(x:Int)<24:=by omega
   have hx0:(0:Int)<=x:=by omega
   obtain⟨o,ho⟩:=pE (Nt.outsN (fs.take k) x);obtain⟨e,he⟩:=pE (Nt.elsesN (fs.take k) x);have hlt0:(fs.take k).length<=100:=by rw[List.length_take];omega
   have ho100:o<=100:=by rw[<-ho];unfold Nt.outsN;have:=List.countP_le_length (l:=fs.take k) (p:=λf=>decide (f.fr=(x:Int)));omega
   have he100:e<=100:=by rw[<-he];unfold Nt.elsesN;have:=List.countP_le_length (l:=fs.take k) (p:=λf=>decide (f.fr=(x:Int))&&f.els);omega
   have hwo:IntKind.i64.wrap ((o:Int)+1)=((o+1:Nat):Int):=by rw[IntKind.wrap_i64];omega
   have hwe:IntKind.i64.wrap ((e:Int)+1)=((e+1:Nat):Int):=by rw[IntKind.wrap_i64];omega
   have jx:=HI.out.2.2.2 x hxn;rw[ho,he]at jx;have co:=CW1.out.cell (x*3+1) _ jx.2.1;have ce:=CW1.out.cell (x*3+2) _ jx.2.2;have fo:=CW1.out.frozen (x*3+1);have fe:=CW1.out.frozen (x*3+2);have PO:Hid _:=CW1.out.put (x*3+1) (.int .i64 ((o+1:Nat):Int));have PE:Hid _:=PO.out.put (x*3+2) (.int .i64 ((e+1:Nat):Int));have HO:Hid (Nt.outsN (fs.take k) x=o/\Nt.elsesN (fs.take k) x=e):=⟨ho,he⟩;have hsz:cs.size=72:=HI.out.2.1;clear ho he jx hlt0
   cases els with
   |false=>
    obtain⟨WX,hWX⟩:=pE (W1.setCell ⟨w.heap.size+1+1,x*3+1,none⟩ (.int .i64 ((o+1:Nat):Int)));have HWX:Hid (W1.setCell ⟨w.heap.size+1+1,x*3+1,none⟩ (.int .i64 ((o:Int)+1))=WX):=hWX;have CWX:Hid (Nt.Cw w #[.slice an n cn,.slice (some ⟨q,off,none⟩) m cf] (cs.setIfInBounds (x*3+1) (.int .i64 ((o+1:Nat):Int))) WX):=by show Nt.Cw _ _ _ _;rw[<-hWX];exact PO.out
    have FX:Hid (WX.heap[wr.heap.size]? =some (.cells #[.int .i64 (x:Int),.int .i64 tt,.bool false,.int .i64 op,.int .i64 num,.slice au nu cu] 64 (0,0))):=by
     show WX.heap[wr.heap.size]? =_;rw[<-hWX,Below.heap_setCell _ _ _ _ hne1];exact F1.out
    clear hWX PO PE
    have CI2:Hid (Calls Tryz.prog 130 #[.agg #[.slice an n cn,.slice (some ⟨q,off,none⟩) m cf],.int .i64 tt] WX λe w'=>e=.returned (.bool bt)/\Below WX.heap.size WX w'):=by
     have h:=Tryz.isNode_any tt an n cn (some ⟨q,off,none⟩) m cf WX;rw[HT.out]at h;exact h
    go_wp2_with fail
    rw[HWX.out];refine Calls.mono CI2.out ?_;rintro e W2 ⟨rfl,hb2⟩;have CW2:Hid (Nt.Cw w #[.slice an n cn,.slice (some ⟨q,off,none⟩) m cf] (cs.setIfInBounds (x*3+1) (.int .i64 ((o+1:Nat):Int))) W2):=CWX.out.next hb2
    have F2:Hid (W2.heap[wr.heap.size]? =some (.cells #[.int .i64 (x:Int),.int .i64 tt,.bool false,.int .i64 op,.int .i64 num,.slice au nu cu] 64 (0,0))):=by
     show W2.heap[wr.heap.size]? =_;rw[hb2.block _ (Nt.lt_of FX.out)];exact FX.out
    have z1:W2.cell? ⟨wr.heap.size,1,none⟩=some (.int .i64 tt):=by have:=F2.out;simp[World.cell?,this]
    clear hb2 CI2
    cases bt with
    |true=>
     obtain⟨y,hy⟩:∃y:Nat,tt=y:=⟨tt.toNat,by have:=HT.out;simp[Nt.isNodeB]at this;omega⟩;have hyn:y<n:=by have:=HT.out;simp[Nt.isNodeB]at this;omega
     subst hy;have hy24:(y:Int)<24:=by omega
     have hy0:(0:Int)<=y:=by omega
     obtain⟨i,hi⟩:=pE (Nt.insN (fs.take k) y);have hi100:i<=100:=by rw[<-hi];unfold Nt.insN;have:=List.countP_le_length (l:=fs.take k) (p:=λf=>decide (f.to=(y:Int)));rw[List.length_take]at this;omega
     have hwi:IntKind.i64.wrap ((i:Int)+1)=((i+1:Nat):Int):=by rw[IntKind.wrap_i64];omega
     have cy:(cs.setIfInBounds (x*3+1) (.int .i64 ((o+1:Nat):Int)))[y*3]? =some (.int .i64 (i:Int)):=by rw[Array.getElem?_setIfInBounds,if_neg (by omega),<-hi];exact(HI.out.2.2.2 y hyn).1
     have cz:=CW2.out.cell (y*3) _ cy;have cf1:=CW2.out.frozen (y*3);have W3:Hid (Nt.Cw w #[.slice an n cn,.slice (some ⟨q,off,none⟩) m cf] ((cs.setIfInBounds (x*3+1) (.int .i64 ((o+1:Nat):Int))).setIfInBounds (y*3) (.int .i64 ((i+1:Nat):Int))) (W2.setCell ⟨w.heap.size+1+1,y*3,none⟩ (.int .i64 ((i+1:Nat):Int)))):=CW2.out.put _ _
     have HJ:Hid (Nt.Joints ((cs.setIfInBounds (x*3+1) (.int .i64 ((o+1:Nat):Int))).setIfInBounds (y*3) (.int .i64 ((i+1:Nat):Int))) (fs.take (k+1)) n):=by
      show Nt.Joints _ _ _;rw[Tm.take_snoc _ _ hkl,HX.out.1];have h:=Nt.Joints.step (f:=f) HI.out.2 hn x y (λ_=>HX.out.2.1) (λ_=>HX.out.2.2.1);unfold Nt.jstep at h;rw[HX.out.2.1,HX.out.2.2.1,HX.out.2.2.2,HB.out,HT.out,hi]at h;simpa [HO.out.1,HO.out.2]using h
     clear cy hi;go_wp2;go_roundg (gk-1)
     case measure=>omega
     case rel=>exact⟨k+1,_,by omega,by go_num,W3.out,HJ.out⟩
    |false=>
     have HJ:Hid (Nt.Joints (cs.setIfInBounds (x*3+1) (.int .i64 ((o+1:Nat):Int))) (fs.take (k+1)) n):=by
      show Nt.Joints _ _ _;rw[Tm.take_snoc _ _ hkl,HX.out.1];have h:=Nt.Joints.step (f:=f) HI.out.2 hn x 0 (λ_=>HX.out.2.1) (λh=>by rw[HX.out.2.2.1,HT.out]at h;cases h);unfold Nt.jstep at h;rw[HX.out.2.1,HX.out.2.2.1,HX.out.2.2.2,HB.out,HT.out]at h;simpa [HO.out.1,HO.out.2]using h
     go_wp2;go_roundg (gk-1)
     case measure=>omega
     case rel=>exact⟨k+1,_,by omega,by go_num,CW2.out,HJ.out⟩
   |true=>
    obtain⟨WX,hWX⟩:=pE ((W1.setCell ⟨w.heap.size+1+1,x*3+1,none⟩ (.int .i64 ((o+1:Nat):Int))).setCell ⟨w.heap.size+1+1,x*3+2,none⟩ (.int .i64 ((e+1:Nat):Int)));have HWX:Hid ((W1.setCell ⟨w.heap.size+1+1,x*3+1,none⟩ (.int .i64 ((o:Int)+1))).setCell ⟨w.heap.size+1+1,x*3+2,none⟩ (.int .i64 ((e:Int)+1))=WX):=hWX;have CWX:Hid (Nt.Cw w #[.slice an n cn,.slice (some ⟨q,off,none⟩) m cf] ((cs.setIfInBounds (x*3+1) (.int .i64 ((o+1:Nat):Int))).setIfInBounds (x*3+2) (.int .i64 ((e+1:Nat):Int))) WX):=by show Nt.Cw _ _ _ _;rw[<-hWX];exact PE.out
    have FX:Hid (WX.heap[wr.heap.size]? =some (.cells #[.int .i64 (x:Int),.int .i64 tt,.bool true,.int .i64 op,.int .i64 num,.slice au nu cu] 64 (0,0))):=by
     show WX.heap[wr.heap.size]? =_;rw[<-hWX,Below.heap_setCell _ _ _ _ hne1,Below.heap_setCell _ _ _ _ hne1];exact F1.out
    clear hWX PO PE
    have CI2:Hid (Calls Tryz.prog 130 #[.agg #[.slice an n cn,.slice (some ⟨q,off,none⟩) m cf],.int .i64 tt] WX λe w'=>e=.returned (.bool bt)/\Below WX.heap.size WX w'):=by
     have h:=Tryz.isNode_any tt an n cn (some ⟨q,off,none⟩) m cf WX;rw[HT.out]at h;exact h
    go_wp2_with fail
    rw[HWX.out];refine Calls.mono CI2.out ?_;rintro e W2 ⟨rfl,hb2⟩;have CW2:Hid (Nt.Cw w #[.slice an n cn,.slice (some ⟨q,off,none⟩) m cf] ((cs.setIfInBounds (x*3+1) (.int .i64 ((o+1:Nat):Int))).setIfInBounds (x*3+2) (.int .i64 ((e+1:Nat):Int))) W2):=CWX.out.next hb2
    have F2:Hid (W2.heap[wr.heap.size]? =some (.cells #[.int .i64 (x:Int),.int .i64 tt,.bool true,.int .i64 op,.int .i64 num,.slice au nu cu] 64 (0,0))):=by
     show W2.heap[wr.heap.size]? =_;rw[hb2.block _ (Nt.lt_of FX.out)];exact FX.out
    have z1:W2.cell? ⟨wr.heap.size,1,none⟩=some (.int .i64 tt):=by have:=F2.out;simp[World.cell?,this]
    clear hb2 CI2
    cases bt with
    |true=>
     obtain⟨y,hy⟩:∃y:Nat,tt=y:=⟨tt.toNat,by have:=HT.out;simp[Nt.isNodeB]at this;omega⟩;have hyn:y<n:=by have:=HT.out;simp[Nt.isNodeB]at this;omega
     subst hy;have hy24:(y:Int)<24:=by omega
     have hy0:(0:Int)<=y:=by omega
     obtain⟨i,hi⟩:=pE (Nt.insN (fs.take k) y);have hi100:i<=100:=by rw[<-hi];unfold Nt.insN;have:=List.countP_le_length (l:=fs.take k) (p:=λf=>decide (f.to=(y:Int)));rw[List.length_take]at this;omega
     have hwi:IntKind.i64.wrap ((i:Int)+1)=((i+1:Nat):Int):=by rw[IntKind.wrap_i64];omega
     have cy:((cs.setIfInBounds (x*3+1) (.int .i64 ((o+1:Nat):Int))).setIfInBounds (x*3+2) (.int .i64 ((e+1:Nat):Int)))[y*3]? =some (.int .i64 (i:Int)):=by rw[Array.getElem?_setIfInBounds,if_neg (by omega),Array.getElem?_setIfInBounds,if_neg (by omega),<-hi];exact(HI.out.2.2.2 y hyn).1
     have cz:=CW2.out.cell (y*3) _ cy;have cf1:=CW2.out.frozen (y*3);have W3:Hid (Nt.Cw w #[.slice an n cn,.slice (some ⟨q,off,none⟩) m cf] (((cs.setIfInBounds (x*3+1) (.int .i64 ((o+1:Nat):Int))).setIfInBounds (x*3+2) (.int .i64 ((e+1:Nat):Int))).setIfInBounds (y*3) (.int .i64 ((i+1:Nat):Int))) (W2.setCell ⟨w.heap.size+1+1,y*3,none⟩ (.int .i64 ((i+1:Nat):Int)))):=CW2.out.put _ _
     have HJ:Hid (Nt.Joints (((cs.setIfInBounds (x*3+1) (.int .i64 ((o+1:Nat):Int))).setIfInBounds (x*3+2) (.int .i64 ((e+1:Nat):Int))).setIfInBounds (y*3) (.int .i64 ((i+1:Nat):Int))) (fs.take (k+1)) n):=by
      show Nt.Joints _ _ _;rw[Tm.take_snoc _ _ hkl,HX.out.1];have h:=Nt.Joints.step (f:=f) HI.out.2 hn x y (λ_=>HX.out.2.1) (λ_=>HX.out.2.2.1);unfold Nt.jstep at h;rw[HX.out.2.1,HX.out.2.2.1,HX.out.2.2.2,HB.out,HT.out,hi]at h;simpa [HO.out.1,HO.out.2]using h
     clear cy hi;go_wp2;go_roundg (gk-1)
     case measure=>omega
     case rel=>exact⟨k+1,_,by omega,by go_num,W3.out,HJ.out⟩
    |false=>
     have HJ:Hid (Nt.Joints ((cs.setIfInBounds (x*3+1) (.int .i64 ((o+1:Nat):Int))).setIfInBounds (x*3+2) (.int .i64 ((e+1:Nat):Int))) (fs.take (k+1)) n):=by
      show Nt.Joints _ _ _;rw[Tm.take_snoc _ _ hkl,HX.out.1];have h:=Nt.Joints.step (f:=f) HI.out.2 hn x 0 (λ_=>HX.out.2.1) (λh=>by rw[HX.out.2.2.1,HT.out]at h;cases h);unfold Nt.jstep at h;rw[HX.out.2.1,HX.out.2.2.1,HX.out.2.2.2,HB.out,HT.out]at h;simpa [HO.out.1,HO.out.2]using h
     go_wp2;go_roundg (gk-1)
     case measure=>omega
     case rel=>exact⟨k+1,_,by omega,by go_num,CW2.out,HJ.out⟩
theorem Tryz.condRight_any (ch els:Bool)(fr tt op num:Int)(sa:Option Addr)(n cap:Nat)(ob zb:Bool)(w:World)
  (hO:∀W,Below w.heap.size w W->Calls Tryz.prog 150 #[.int .i64 2,.agg #[.int .i64 op,.int .i64 num,.slice sa n cap]] W λe w'=>e=.returned (.bool ob)/\Below W.heap.size W w')
  (hZ:∀W,Calls Tryz.prog 151 #[.agg #[.int .i64 op,.int .i64 num,.slice sa n cap]] W λe w'=>e=.returned (.bool zb)/\Below W.heap.size W w'):
  Calls Tryz.prog 131 #[.agg #[.int .i64 fr,.int .i64 tt,.bool els,.int .i64 op,.int .i64 num,.slice sa n cap],.bool ch] w λe w'=>e=.returned (.bool (if ch=true/\els=false then ob else(ch==els)&&zb))/\Below w.heap.size w w':=by
 have A0:Below w.heap.size w (w.alloc (.cells #[.int .i64 fr,.int .i64 tt,.bool els,.int .i64 op,.int .i64 num,.slice sa n cap] 64)):=(Below.refl _ w).alloc (Nat.le_refl _) _;have HO:Hid _:=hO _ A0;have HZ:Hid _:=hZ;have HA:Hid _:=A0;clear hO hZ A0
 cases ch<;>cases els
 case true.false=>
  go_enter Tryz.func131,Tryz.ntmps131
  go_wp2_with fail
  refine Calls.mono HO.out ?_;rintro e W ⟨rfl,hb⟩;have B2:Hid (Below w.heap.size w W):=HA.out.trans (hb.mono HA.out.size);clear hb HO HZ;go_wp2;go_ret;exact⟨Tk.ret_bool (by simp),B2.out⟩
 case false.true=>
  go_enter Tryz.func131,Tryz.ntmps131
  go_wp2;go_ret;exact⟨Tk.ret_bool (by simp),HA.out⟩
 all_goals
  go_enter Tryz.func131,Tryz.ntmps131
  go_wp2_with fail
  refine Calls.mono (HZ.out _) ?_;rintro e W ⟨rfl,hb⟩;have B2:Hid (Below w.heap.size w W):=HA.out.trans (hb.mono HA.out.size);clear hb HO HZ;go_wp2;go_ret;exact⟨Tk.ret_bool (by simp),B2.out⟩
theorem Nt.enters_flows:∀args w,(callFunc 129 args).run Tryz.prog w=.ok (.enter 129 args) w:=enters_of Tryz.func129 (by kernel_rfl) rfl
theorem Nt.flowBox {W:World}{b:Nat}{x y o m:Int}{z:Bool}{v:Value}(h:W.heap[b]? =some (.cells #[.int .i64 x,.int .i64 y,.bool z,.int .i64 o,.int .i64 m,v] 64 (0,0))):
  W.cell? ⟨b,0,none⟩=some (.int .i64 x)/\W.cell? ⟨b,1,none⟩=some (.int .i64 y)/\W.cell? ⟨b,2,none⟩=some (.bool z)/\W.cell? ⟨b,3,none⟩=some (.int .i64 o)/\W.cell? ⟨b,4,none⟩=some (.int .i64 m)/\W.cell? ⟨b,5,none⟩=some v:=
 ⟨by simp[World.cell?,h],by simp[World.cell?,h],by simp[World.cell?,h],by simp[World.cell?,h],by simp[World.cell?,h],by simp[World.cell?,h]⟩
theorem Nt.twoB_from {ns:List Nd}{fs:List Fl}{f:Fl}(h:Nt.isNodeB ns.length f.fr=false):Nt.twoB ns fs f=false:=by simp[Nt.twoB,h]
theorem Nt.twoB_to {ns:List Nd}{fs:List Fl}{f:Fl}(h:Nt.isNodeB ns.length f.to=false):Nt.twoB ns fs f=false:=by simp[Nt.twoB,h]
theorem Nt.twoB_same {ns:List Nd}{fs:List Fl}{f:Fl}(h:f.fr=f.to):Nt.twoB ns fs f=false:=by simp[Nt.twoB,h]
theorem Nt.twoB_rest {ns:List Nd}{fs:List Fl}{f:Fl}(h1:Nt.isNodeB ns.length f.fr=true)(h2:Nt.isNodeB ns.length f.to=true)(h:¬f.fr=f.to):Nt.twoB ns fs f=Nt.condB f (Nt.chosenB ns fs f):=by simp[Nt.twoB,h1,h2,h]
structure Nt.Fc (bn bj:Nat)(an:Option Addr)(cn:Nat)(af:Option Addr)(cf:Nat)(ns:List Nd)(fs:List Fl)(cs:Array Value)(W:World):Prop where
 box:W.heap[bn]? =some (.cells #[.slice an ns.length cn,.slice af fs.length cf] 30 (0,0))
 jts:W.heap[bj]? =some (.cells cs 167 (0,0))
theorem Tryz.flows1_any (k bn bj:Nat)(an:Option Addr)(cn:Nat)(af:Option Addr)(cf B d:Nat)(ns:List Nd)(fs:List Fl)(cs:Array Value)(w:World)(hH:Nt.Has w B d an af ns fs)(hB:B<=w.heap.size)(hk:k<fs.length)(hn:ns.length<=24)(hO:Tk.Ops w)
  (hJ:Nt.Joints cs fs ns.length) (hC:Nt.Fc bn bj an cn af cf ns fs cs w):
  Calls Tryz.prog 129 #[.int .i64 k,.pointer (some ⟨bn,0,none⟩),.pointer (some ⟨bj,0,none⟩)] w λe w'=>e=.returned (.bool (!Nt.twoB ns fs fs[k]))/\Below w.heap.size w w':=by
 obtain⟨q,off,u,hqa,hq,h0,h1,h2,h3,h4,h5,h6⟩:=hH.fls k hk;have hsz:=hH.fsz _ (List.getElem_mem hk);have hfl:=hH.flen;obtain⟨f,hf⟩:=pE (fs[k]);rw[hf]at h0 h1 h2 h3 h4 h6 hsz⊢;obtain⟨au,cu,rfl⟩:=h6.shape;obtain⟨W0,hW0⟩:=pE (w.alloc (.cells #[.int .i64 f.fr,.int .i64 f.to,.bool f.els,.int .i64 f.c.op,.int .i64 f.c.num,.slice au f.c.ks.length cu] 64));have A0:=pB hW0
 have F0:W0.heap[w.heap.size]? =some (.cells #[.int .i64 f.fr,.int .i64 f.to,.bool f.els,.int .i64 f.c.op,.int .i64 f.c.num,.slice au f.c.ks.length cu] 64 (0,0)):=by rw[<-hW0];exact heap_alloc_new w _
 obtain⟨p0,p1⟩:=Nt.box2 hC.box
 have hcr:∀ch W,Below w.heap.size w W->Calls Tryz.prog 131 #[.agg #[.int .i64 f.fr,.int .i64 f.to,.bool f.els,.int .i64 f.c.op,.int .i64 f.c.num,.slice au f.c.ks.length cu],.bool ch] W λe w'=>e=.returned (.bool (Nt.condB f ch))/\Below W.heap.size W w':=λch W hb=>
  Tryz.condRight_any ch f.els f.fr f.to f.c.op f.c.num au f.c.ks.length cu (Nt.ofB f.c 2) (Nt.zeroB f.c) W (λW' hb'=>Tryz.isOf_any 2 d f.c (.slice au f.c.ks.length cu) W' (((h6.wider hB).below (hb.trans (hb'.mono hb.size))).wider (Nat.le_trans hb.size hb'.size)) (hO.below (hb.trans (hb'.mono hb.size)) hO.lt) hsz) (λW'=>Tryz.isZero_any f.c au cu W')
 have hnk:∀x:Nat,x<ns.length->∃g o2,an=some ⟨g,o2,none⟩/\∀W,Below w.heap.size w W->W.cell? ⟨g,o2+x*5,none⟩=some (.int .i64 (Nt.kindAt ns x)):=λx hx=>by
  obtain⟨g,o2,u',e1,e2,e3,_⟩:=hH.nds x hx;exact⟨g,o2,e1,λW hb=>by rw[hb.cell (p:=⟨g,o2+x*5,none⟩) (by show g<_;omega),Nt.kindAt_get ns x hx];exact e3⟩
 obtain⟨nu,hnu⟩:=pE (f.c.ks.length);obtain⟨fr,hfr⟩:=pE (f.fr);obtain⟨tt,hto⟩:=pE (f.to);obtain⟨els,hel⟩:=pE (f.els);obtain⟨op,hop⟩:=pE (f.c.op);obtain⟨num,hnum⟩:=pE (f.c.num);obtain⟨n,hnn⟩:=pE (ns.length);obtain⟨m,hmm⟩:=pE (fs.length);rw[hmm]at hfl;rw[hfr,hto,hel,hop,hnum,hnu]at hW0 F0;simp only[hfr,hto,hel,hop,hnum,hnu]at hcr;rw[hnu]at h5;rw[hfr]at h0;rw[hto]at h1;rw[hel]at h2;rw[hop]at h3;rw[hnum]at h4;rw[hnn]at p0;rw[hmm]at p1;have hkm:(k:Int)<m:=by omega
 have hk0:(0:Int)<=k:=by omega
 have hu:=Tryz.underlying64;obtain⟨bf,hbf⟩:=pE (Nt.isNodeB n fr);obtain⟨bt,hbt⟩:=pE (Nt.isNodeB n tt)
 have CI1:Hid (∀W,Calls Tryz.prog 130 #[.agg #[.slice an n cn,.slice af m cf],.int .i64 fr] W λe w'=>e=.returned (.bool bf)/\Below W.heap.size W w'):=λW=>by
  have h:=Tryz.isNode_any fr an n cn af m cf W;rw[hbf]at h;exact h
 have CI2:Hid (∀W,Calls Tryz.prog 130 #[.agg #[.slice an n cn,.slice af m cf],.int .i64 tt] W λe w'=>e=.returned (.bool bt)/\Below W.heap.size W w'):=λW=>by
  have h:=Tryz.isNode_any tt an n cn af m cf W;rw[hbt]at h;exact h
 have CR:Hid (∀ch W,Below w.heap.size w W->Calls Tryz.prog 131 #[.agg #[.int .i64 fr,.int .i64 tt,.bool els,.int .i64 op,.int .i64 num,.slice au nu cu],.bool ch] W λe w'=>e=.returned (.bool (Nt.condB f ch))/\Below W.heap.size W w'):=hcr;have NK:Hid (∀x:Nat,x<n->∃g o2,an=some ⟨g,o2,none⟩/\∀W,Below w.heap.size w W->W.cell? ⟨g,o2+x*5,none⟩=some (.int .i64 (Nt.kindAt ns x))):=λx hx=>hnk x (by omega);have HW0:Hid (w.alloc (.cells #[.int .i64 fr,.int .i64 tt,.bool els,.int .i64 op,.int .i64 num,.slice au nu cu] 64)=W0):=hW0;have HA:Hid (Below w.heap.size w W0/\W0.heap[w.heap.size]? =some (.cells #[.int .i64 fr,.int .i64 tt,.bool els,.int .i64 op,.int .i64 num,.slice au nu cu] 64 (0,0))):=⟨A0,F0⟩
 -- what a later world holds
 have HB:Hid (∀W,Below W0.heap.size W0 W->Below w.heap.size w W/\W.heap[w.heap.size]? =some (.cells #[.int .i64 fr,.int .i64 tt,.bool els,.int .i64 op,.int .i64 num,.slice au nu cu] 64 (0,0))/\W.cell? ⟨bn,0,none⟩=some (.slice an n cn)/\W.cell? ⟨bn,1,none⟩=some (.slice af m cf)/\W.heap[bj]? =some (.cells cs 167 (0,0))):=λW hb=>by
  have hbw:Below w.heap.size w W:=A0.trans (hb.mono A0.size);refine⟨hbw, ?_, ?_, ?_, ?_⟩
  ·rw[hb.block _ (Nt.lt_of F0)];exact F0
  ·rw[hbw.cell (p:=⟨bn,0,none⟩) (Nt.lt_of hC.box)];exact p0
  ·rw[hbw.cell (p:=⟨bn,1,none⟩) (Nt.lt_of hC.box)];exact p1
  rw[hbw.block _ (Nt.lt_of hC.jts)];exact hC.jts
 have HJ:Hid (Nt.Joints cs fs n):=by show Nt.Joints _ _ _;rw[<-hnn];exact hJ
 have HE:Hid (Nt.isNodeB n fr=bf/\Nt.isNodeB n tt=bt/\f.fr=fr/\f.to=tt/\ns.length=n/\fs.length=m/\m<=100/\n<=24):=⟨hbf,hbt,hfr,hto,hnn,hmm,hfl,by omega⟩;have hbn:bn<w.heap.size:=Nt.lt_of hC.box;have hbj:bj<w.heap.size:=Nt.lt_of hC.jts;subst hqa;obtain⟨r,hr⟩:=pE (Nt.twoB ns fs f);rw[hr];have HR:Hid (Nt.twoB ns fs f=r):=hr;clear hr hH hB hO hJ hC h6 hsz A0 F0 hcr hnk hnu hfr hto hel hop hnum hnn hmm hbf hbt hW0 hf hq hfl hn hk
 go_enter Tryz.func129,Tryz.ntmps129
 go_wp2_with fail
 rw[HW0.out];refine Calls.mono (CI1.out _) ?_;rintro e W1 ⟨rfl,hb1⟩;have B1:Hid (Below W0.heap.size W0 W1):=hb1;obtain⟨_,g1,g2,g3,g4⟩:=HB.out W1 B1.out;obtain⟨x0,x1,x2,x3,x4,x5⟩:=Nt.flowBox g1;clear hb1 CI1 h0 h1 h2 h3 h4 h5 p0 p1 HW0
 cases bf with
 |false=>
  have HD:Hid (r=false):=HR.out.symm.trans (Nt.twoB_from (by rw[HE.out.2.2.1,HE.out.2.2.2.2.1];exact HE.out.1));clear CI2 CR;go_wp2;go_ret;exact⟨Tk.ret_bool (by rw[HD.out];rfl),(HB.out W1 B1.out).1⟩
 |true=>
  go_wp2_with fail
  refine Calls.mono (CI2.out _) ?_;rintro e W2 ⟨rfl,hb2⟩;have B2:Hid (Below W0.heap.size W0 W2):=B1.out.trans (hb2.mono B1.out.size);clear hb2 CI2 x0 x1 x2 x3 x4 x5 g1 g2 g3 g4;obtain⟨hbw2,g1,g2,g3,g4⟩:=HB.out W2 B2.out;obtain⟨x0,x1,x2,x3,x4,x5⟩:=Nt.flowBox g1;have HW2:Hid (Below w.heap.size w W2):=hbw2;clear hbw2
  cases bt with
  |false=>
   have HD:Hid (r=false):=HR.out.symm.trans (Nt.twoB_to (by rw[HE.out.2.2.2.1,HE.out.2.2.2.2.1];exact HE.out.2.1));clear CR;go_wp2;go_ret;exact⟨Tk.ret_bool (by rw[HD.out];rfl),HW2.out⟩
  |true=>
   by_cases hft:fr=tt
   ·have HD:Hid (r=false):=HR.out.symm.trans (Nt.twoB_same (by rw[HE.out.2.2.1,HE.out.2.2.2.1];exact hft))
    have hq0:(fr==tt)=true:=by simpa using hft
    clear CR hft;go_wp2;go_ret;exact⟨Tk.ret_bool (by rw[HD.out];rfl),HW2.out⟩
   have hq0:(fr==tt)=false:=by simpa using hft
   have HD:Hid (r=Nt.condB f (Nt.chosenB ns fs f)):=HR.out.symm.trans (Nt.twoB_rest (by rw[HE.out.2.2.1,HE.out.2.2.2.2.1];exact HE.out.1) (by rw[HE.out.2.2.2.1,HE.out.2.2.2.2.1];exact HE.out.2.1) (by rw[HE.out.2.2.1,HE.out.2.2.2.1];exact hft));clear hft;obtain⟨x,hx⟩:∃x:Nat,fr=x:=⟨fr.toNat,by have:=HE.out.1;simp[Nt.isNodeB]at this;omega⟩;have hxn:x<n:=by have:=HE.out.1;simp[Nt.isNodeB]at this;omega
   subst hx;have hx24:(x:Int)<24:=by have:=HE.out.2.2.2.2.2.2.2;omega
   have hxn':(x:Int)<n:=by omega
   have hx0:(0:Int)<=x:=by omega
   obtain⟨gn,on,rfl,hnk⟩:=NK.out x hxn;have hk5:=hnk W2 HW2.out;obtain⟨kx,hkx⟩:=pE (Nt.kindAt ns x);obtain⟨o,ho⟩:=pE (Nt.outsN fs x)
   have hoc:W2.cell? ⟨bj,x*3+1,none⟩=some (.int .i64 o):=by
    have:=(HJ.out.2.2 x hxn).2.1;rw[ho]at this;simp[World.cell?,g4,this]
   rw[hkx]at hk5
   have HCH:Hid (Nt.chosenB ns fs f=(decide (kx=5)&&decide (2<=o))):=by
    show _=_;rw[Nt.chosenB,HE.out.2.2.1,Int.toNat_natCast,hkx,ho]
   clear hnk hkx ho NK
   by_cases h5:kx=5
   rotate_left
   ·have e5:(kx==5)=false:=by simpa using h5
    have HCF:Hid (Nt.chosenB ns fs f=false):=by show _=_;rw[HCH.out,decide_eq_false h5,Bool.false_and]
    rw[HCF.out]at HD;clear h5
    go_wp2_with fail
    refine Calls.mono (CR.out _ _ HW2.out) ?_;rintro e W3 ⟨rfl,hb3⟩;have B3:Hid (Below w.heap.size w W3):=HW2.out.trans (hb3.mono HW2.out.size);clear hb3 CR;go_wp2;go_ret;exact⟨Tk.ret_bool (by rw[HD.out]),B3.out⟩
   subst h5
   obtain ho|ho:decide ((1:Int)<o)=true∨decide ((1:Int)<o)=false:=by cases decide ((1:Int)<o)<;>simp
   all_goals
    have HCF:Hid (Nt.chosenB ns fs f=decide ((1:Int)<o)):=by
     show _=_;rw[HCH.out,decide_eq_true rfl,Bool.true_and];exact decide_eq_decide.2 (by omega)
    rw[ho]at HCF;rw[HCF.out]at HD
    go_wp2_with fail
    refine Calls.mono (CR.out _ _ HW2.out) ?_;rintro e W3 ⟨rfl,hb3⟩;have B3:Hid (Below w.heap.size w W3):=HW2.out.trans (hb3.mono HW2.out.size);clear hb3 CR;go_wp2;go_ret;exact⟨Tk.ret_bool (by rw[HD.out]),B3.out⟩
theorem Tk.cell_lt' {w:World}{g o:Nat}{v:Value}(h:w.cell? ⟨g,o,none⟩=some v):g<w.heap.size:=by
 rcases Nat.lt_or_ge g w.heap.size with h1|h1
 ·exact h1
 unfold World.cell? at h;simp[h1]at h
def Nt.otherB (ns:List Nd)(i:Int)(f:Fl):Bool:=decide (f.fr=i)&& !decide (Nt.kindAt ns f.to.toNat=8)
theorem Tryz.leads_any (i:Int)(an:Option Addr)(cn:Nat)(af:Option Addr)(cf d:Nat)(ns:List Nd)(fs:List Fl)(w:World)(hH:Nt.Has w w.heap.size d an af ns fs)(hto:∀f,f∈fs->0<=f.to/\f.to<ns.length):
  Calls Tryz.prog 153 #[.agg #[.slice an ns.length cn,.slice af fs.length cf],.int .i64 i] w λe w'=>e=.returned (.bool (!fs.any (Nt.otherB ns i)))/\Below w.heap.size w w':=by
 obtain⟨w1,hw1⟩:=pE (w.alloc (.cells #[.slice an ns.length cn,.slice af fs.length cf] 30));have A1:=pB hw1
 have C0:w1.heap[w.heap.size]? =some (.cells #[.slice an ns.length cn,.slice af fs.length cf] 30 (0,0)):=by rw[<-hw1];exact heap_alloc_new w _
 obtain⟨n,hnn⟩:=pE (ns.length);obtain⟨m,hmm⟩:=pE (fs.length);obtain⟨r,hr⟩:=pE (fs.any (Nt.otherB ns i))
 have NK:Hid (∀x:Nat,x<n->∃g o2,an=some ⟨g,o2,none⟩/\∀W,Below w.heap.size w W->W.cell? ⟨g,o2+x*5,none⟩=some (.int .i64 (Nt.kindAt ns x))):=λx hx=>by
  obtain⟨g,o2,u',e1,e2,e3,_⟩:=hH.nds x (by omega);exact⟨g,o2,e1,λW hb=>by rw[hb.cell (p:=⟨g,o2+x*5,none⟩) e2,Nt.kindAt_get ns x (by omega)];exact e3⟩
 have HBX:Hid (∀w2,Below w1.heap.size w1 w2->w2.cell? ⟨w.heap.size,0,none⟩=some (.slice an n cn)/\w2.cell? ⟨w.heap.size,1,none⟩=some (.slice af m cf)):=λw2 hb=>by
  have:=Nt.box2 ((hb.block _ (Nt.lt_of C0)).trans C0);rw[hnn,hmm]at this;exact this
 have HF:Hid (Nt.Fls w w.heap.size d af fs/\fs.length=m/\m<=100/\n<=100/\(∀f,f∈fs->0<=f.to/\f.to<n)/\fs.any (Nt.otherB ns i)=r):=⟨hH.fls,hmm,by have:=hH.flen;omega,by have:=hH.nlen;omega,λf hf=>by have:=hto f hf;omega,hr⟩;rw[hnn,hmm]at hw1;rw[hr,hnn,hmm];have H1:Hid (w.alloc (.cells #[.slice an n cn,.slice af m cf] 30)=w1):=hw1;have HA:Hid (Below w.heap.size w w1/\w.heap.size<w1.heap.size):=⟨A1,Nt.lt_of C0⟩;have hm100:m<=100:=HF.out.2.2.1;clear hH hto hnn hmm hr hw1 A1 C0
 go_enter Tryz.func153,Tryz.ntmps153
 go_wp2;rw[H1.out]
 go_loopg [10] m (λgk s10 wr=>∃k:Nat,gk+k=m/\s10=.int .i64 k/\Hid (Below w1.heap.size w1 wr/\(fs.take k).any (Nt.otherB ns i)=false))
 case atStart=>exact⟨0,by omega,rfl,Below.refl _ _,by simp⟩
 case round=>
  obtain⟨k,hk,rfl,HI⟩:=hrel;clear H1
  by_cases hlt:k<m
  rotate_left
  ·have hd:decide ((k:Int)<m)=false:=decide_eq_false (by omega)
   go_wp2;go_ret;have:=HI.out.2;rw[List.take_of_length_le (by rw[HF.out.2.1];omega),HF.out.2.2.2.2.2]at this;exact⟨Tk.ret_bool (by rw[this];rfl),HA.out.1.trans (HI.out.1.mono HA.out.1.size)⟩
  have hd:decide ((k:Int)<m)=true:=decide_eq_true (by omega);have hkl:k<fs.length:=by rw[HF.out.2.1];exact hlt
  obtain⟨q,off,u,hqa,hq,h0,h1,h2,h3,h4,h5,h6⟩:=HF.out.1 k hkl;obtain⟨au,cu,rfl⟩:=h6.shape;obtain⟨f,hf⟩:=pE (fs[k]);have htn:=HF.out.2.2.2.2.1 _ (List.getElem_mem hkl);rw[hf]at h0 h1 h2 h3 h4 h5 htn;obtain⟨nu,hnu⟩:=pE (f.c.ks.length);obtain⟨fr,hfr⟩:=pE (f.fr);obtain⟨x,hx⟩:∃x:Nat,f.to=x:=⟨f.to.toNat,by omega⟩;obtain⟨els,hel⟩:=pE (f.els);obtain⟨op,hop⟩:=pE (f.c.op);obtain⟨num,hnum⟩:=pE (f.c.num);rw[hx]at htn;have hxn:x<n:=by omega
  have hxn':(x:Int)<n:=by omega
  have hx0:(0:Int)<=x:=by omega
  rw[hnu]at h5;rw[hfr]at h0;rw[hx]at h1;rw[hel]at h2;rw[hop]at h3;rw[hnum]at h4;have hbw:Below w.heap.size w wr:=HA.out.1.trans (HI.out.1.mono HA.out.1.size);have hc:∀o,wr.cell? ⟨q,o,none⟩=w.cell? ⟨q,o,none⟩:=λo=>hbw.cell (p:=⟨q,o,none⟩) hq;have c0:=(hc _).trans h0;have c1:=(hc _).trans h1;have c2:=(hc _).trans h2;have c3:=(hc _).trans h3;have c4:=(hc _).trans h4;have c5:=(hc _).trans h5;obtain⟨gn,on,hga,hnk⟩:=NK.out x hxn;have hkc:=hnk wr hbw;obtain⟨kx,hkx⟩:=pE (Nt.kindAt ns x);rw[hkx]at hkc;have hgl:gn<wr.heap.size:=Tk.cell_lt' hkc;obtain⟨p0,p1⟩:=HBX.out wr HI.out.1;have hbl:w.heap.size<wr.heap.size:=by have:=HA.out.2;have:=HI.out.1.size;omega
  have HO:Hid (Nt.otherB ns i fs[k]=(decide (fr=i)&& !decide (kx=8))):=by show _=_;rw[hf,Nt.otherB,hfr,hx,Int.toNat_natCast,hkx]
  have BN:Hid (Below w1.heap.size w1 (wr.alloc (.cells #[.int .i64 fr,.int .i64 (x:Int),.bool els,.int .i64 op,.int .i64 num,.slice au nu cu] 64))):=HI.out.1.alloc HI.out.1.size _;have hu:=Tryz.underlying64;subst hqa;subst hga;clear h0 h1 h2 h3 h4 h5 h6 hc hf hnu hfr hx hel hop hnum hq htn hnk hkx hbw
  by_cases hfi:fr=i
  rotate_left
  ·have e1:(fr==i)=false:=by simpa using hfi
   have HN:Hid ((fs.take (k+1)).any (Nt.otherB ns i)=false):=by
    show _=_;rw[Tm.take_snoc _ _ hkl,List.any_append,HI.out.2];simp[HO.out,hfi]
   clear hfi;go_wp2;go_roundg (gk-1)
   case measure=>omega
   case rel=>exact⟨k+1,by omega,by go_num,BN.out,HN.out⟩
  have e1:(fr==i)=true:=by simpa using hfi
  have d1:decide (fr=i)=true:=decide_eq_true hfi;rw[d1]at HO;clear hfi d1
  by_cases h8:kx=8
  ·subst h8
   have HN:Hid ((fs.take (k+1)).any (Nt.otherB ns i)=false):=by
    show _=_;rw[Tm.take_snoc _ _ hkl,List.any_append,HI.out.2];simp[HO.out]
   go_wp2;go_roundg (gk-1)
   case measure=>omega
   case rel=>exact⟨k+1,by omega,by go_num,BN.out,HN.out⟩
  have e8:(kx==8)=false:=by simpa using h8
  have HN:Hid (r=true):=by
   show _=_;rw[<-HF.out.2.2.2.2.2];exact List.any_eq_true.2 ⟨fs[k],List.getElem_mem hkl,by rw[HO.out,decide_eq_false h8];rfl⟩
  clear h8;go_wp2;go_ret;exact⟨Tk.ret_bool (by rw[HN.out];rfl),HA.out.1.trans (BN.out.mono HA.out.1.size)⟩
end Go.Proofs
