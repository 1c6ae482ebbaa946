import Derived.Test.YtmomffminkflnaaGreatDoorRDdFinish
import Derived.Test.YtmomffminkflnaaGreatDoorRAcFormAny
set_option maxRecDepth 100000
set_option maxHeartbeats 32000000
namespace Go.Proofs
open Go.RowKit Go.Shelf
theorem Tryz.over1_any(x y:Int)(w:World):Calls Tryz.prog 36 #[.agg #[.int .i64 x, .int .i64 y]]w λe w'=>e= .returned(.bool(decide(y= -1)))/\Below w.heap.size w w':=by
 have B0:Hid(Below w.heap.size w(w.alloc(.cells #[.int .i64 x, .int .i64 y]80))):=(Below.refl _ w).alloc(Nat.le_refl _)_
 by_cases h:y= -1
 ·subst h
  go_enter Tryz.func36,Tryz.ntmps36
  go_wp2;go_ret;exact⟨rfl,B0.out⟩
 have e:(y== -1)=false:=by simpa using h
 have HQ:Hid(decide(y= -1)=false):=decide_eq_false h;clear h
 go_enter Tryz.func36,Tryz.ntmps36
 go_wp2;go_ret;rw [HQ.out];exact⟨rfl,B0.out⟩
theorem Dd.last_none {ls:List(Int×Int)} (h: ∀j(h:j<ls.length),ls[j].2≠ -1):Dd.lastI ls= -1:=by
 unfold Dd.lastI;rw [List.findIdx?_eq_none_iff.2];intro x hx;obtain⟨j,hj,rfl⟩:=List.mem_iff_getElem.1 hx;exact decide_eq_false(h j hj)
theorem Dd.last_some {ls:List(Int×Int)} {k:Nat} (hk:k<ls.length)(h1:ls[k].2= -1)(h: ∀j(_:j<k)(h:j<ls.length),ls[j].2≠ -1):Dd.lastI ls=k:=by
 unfold Dd.lastI;rw [(List.findIdx?_eq_some_iff_getElem(i:=k)).2⟨hk,decide_eq_true h1,λj hj=>by simpa using h j hj(by omega)⟩]
theorem Tryz.linkIndex_any(la:Option Addr)(m lc:Nat)(ls:List(Int×Int))(w:World)(hL:Ac.Lks w w.heap.size la ls)(hm:ls.length=m)(h40:m<=1000):
  Calls Tryz.prog 35 #[.slice la m lc, .func(.func 36) #[] #[]]w λe w'=>e= .returned(.int .i64(Dd.lastI ls))/\Below w.heap.size w w':=by
 obtain⟨R,hR⟩: ∃R,Dd.lastI ls=R:=⟨_,rfl⟩;rw [hR];have HR:Hid(Dd.lastI ls=R):=hR;have HL:Hid(Ac.Lks w w.heap.size la ls/\ls.length=m):=⟨hL,hm⟩;clear hL hm hR
 go_enter Tryz.func35,Tryz.ntmps35
 go_wp2
 go_loopg [5,8]m(λgk _ s8 wr=> ∃k:Nat,gk+k=m/\s8= .int .i64 k/\Hid(Below w.heap.size w wr/\ ∀j(_:j<k)(h:j<ls.length),ls[j].2≠ -1))
 case atStart=>exact⟨0,by omega,rfl,Below.refl _ w,λj hj=>by omega⟩
 case round=>
  obtain⟨k,hk,rfl,HB⟩:=hrel
  by_cases hlt:k<m
  rotate_left
  ·have hd:decide((k:Int)<m)=false:=decide_eq_false(by omega)
   have HE:Hid(R= -1):=by
    show _=_;rw [<-HR.out];exact Dd.last_none λj hj=>HB.out.2 j(by rw [HL.out.2]at hj;omega)hj
   go_wp2;go_ret;exact⟨by rw [HE.out];rfl,HB.out.1⟩
  have hd:decide((k:Int)<m)=true:=decide_eq_true(by omega);have hkl:k<ls.length:=by rw [HL.out.2];exact hlt
  obtain⟨q,off,rfl,hq,d0,d1⟩:=HL.out.1 k hkl;obtain⟨x,hx⟩: ∃x,ls[k]=x:=⟨_,rfl⟩;obtain⟨a,b⟩:=x;rw [hx]at d0 d1;have p0:(0:Int)<=k:=by omega
  have p1:(k:Int)<m:=by omega
  have e0:wr.cell? ⟨q,off+k*2,none⟩=some(.int .i64 a):=by rw [HB.out.1.cell(p:=⟨q,off+k*2,none⟩)hq];exact d0
  have e1:wr.cell? ⟨q,off+k*2+1,none⟩=some(.int .i64 b):=by rw [HB.out.1.cell(p:=⟨q,off+k*2+1,none⟩)hq];exact d1
  have HX:Hid(ls[k]=(a,b)):=hx;have HKL:Hid(k<ls.length):=hkl;have hcall:=Tryz.over1_any a b wr;clear hq d0 d1
  by_cases hb:b= -1
  ·have hq:decide(b= -1)=true:=decide_eq_true hb
   rw [hq]at hcall
   have HE:Hid(R=k):=by
    show _=_;rw [<-HR.out];exact Dd.last_some HKL.out(by rw [HX.out];exact hb)HB.out.2
   clear hq hb
   go_wp2_with(refine hcall.mono ?_;rintro e w1⟨rfl,hb1⟩)
   go_ret;exact⟨by rw [HE.out];rfl,HB.out.1.trans(hb1.mono HB.out.1.size)⟩
  have hq:decide(b= -1)=false:=decide_eq_false hb;rw [hq]at hcall
  have HE:Hid(∀j(_:j<k+1)(h:j<ls.length),ls[j].2≠ -1):=λj hj hjl=>by
   by_cases e:j=k
   ·subst e;rw [HX.out];exact hb
   exact HB.out.2 j(by omega)hjl
  clear hq hb
  go_wp2_with(refine hcall.mono ?_;rintro e w1⟨rfl,hb1⟩)
  go_roundg(gk-1)
  case measure=>omega
  case rel=>exact⟨k+1,by omega,by go_num,HB.out.1.trans(hb1.mono HB.out.1.size),HE.out⟩
theorem Tryz.deadOver_any(x0 x1 x2 x3 x4 x5 x6 x7 x10 x11:Value)(ka la:Option Addr)(n kc m lc:Nat)(ls:List(Int×Int))(l:List Int)(wb:Bool)(w:World)(hL:Ac.Lks w w.heap.size la ls)(hm:ls.length=m)(hl:l.length=104)(h40:wb=true->m<=40/\n<=64)(hlast:wb=true-> ∃i:Nat,Dd.lastI ls=i/\i<40)
  (CW0: ∀W,Below w.heap.size w W->Calls Tryz.prog 26 #[.agg #[x0,x1,x2,x3,x4,x5,x6,x7, .slice ka n kc, .slice la m lc,x10,x11]]W λe w'=>e= .returned(.bool wb)/\Below W.heap.size W w'):
  Calls Tryz.prog 21 #[.agg #[x0,x1,x2,x3,x4,x5,x6,x7, .slice ka n kc, .slice la m lc,x10,x11], .agg(Dd.row l)]w λe w'=>e= .returned(.bool(Dd.overB wb n ls l))/\Below w.heap.size w w':=by
 obtain⟨w1,hw1⟩: ∃z,(w.alloc(.cells #[x0,x1,x2,x3,x4,x5,x6,x7, .slice ka n kc, .slice la m lc,x10,x11]32)).alloc(.cells(Dd.row l)41)=z:=⟨_,rfl⟩;have F1:=Dd.F2.new w #[x0,x1,x2,x3,x4,x5,x6,x7, .slice ka n kc, .slice la m lc,x10,x11]hl;rw [hw1]at F1;have H1:Hid _:=hw1;have CC:Hid _:=Tryz.deadCheck_any x0 x1 x2 x3 x4 x5 x6 x7 x10 x11 ka la n kc m lc l wb w1 hl h40(λW hb=>CW0 W(F1.bel.trans(hb.mono F1.bel.size)));obtain⟨c,hc⟩: ∃c,Dd.checkI wb n m l=c:=⟨_,rfl⟩;obtain⟨R,hR⟩: ∃R,Dd.overB wb n ls l=R:=⟨_,rfl⟩;rw [hc]at CC;rw [hR]
 have HR:Hid(R=if c≠0 then false else decide(l.getD(Dd.lastI ls).toNat 0=1)):=by
  show _=_;rw [<-hR,Dd.overB,hm,hc]
 have HC:Hid(Dd.checkI wb n m l=c):=hc;have HF:Hid(∀W,Below w1.heap.size w1 W->Dd.F2 w #[x0,x1,x2,x3,x4,x5,x6,x7, .slice ka n kc, .slice la m lc,x10,x11]l W):=λW hb=>F1.below hb;have H4:Hid((wb=true->m<=40/\n<=64)/\(wb=true-> ∃i:Nat,Dd.lastI ls=i/\i<40)/\Ac.Lks w w.heap.size la ls/\ls.length=m):=⟨h40,hlast,hL,hm⟩;have NA:=F1.bx;unfold Dd.Bx at NA;have NS:=F1.st.h;have ha:=Tryz.underlying32;have hu:=Tryz.underlying41;have ia:(Tryz.prog.info? 32).map(·.size)=some(#[x0,x1,x2,x3,x4,x5,x6,x7, .slice ka n kc, .slice la m lc,x10,x11]:Array Value).size:=Dd.info_act;have il:=Dd.info_row hl;clear hw1 F1 hl h40 CW0 hc hR hL hm hlast
 by_cases hc0:c=0
 rotate_left
 ·have e0:(c !=0)=true:=by simpa using hc0
  have HQ:Hid(R=false):=by
   have h:=HR.out;rw [if_pos hc0]at h;exact h
  clear hc0
  go_enter Tryz.func21,Tryz.ntmps21
  go_upto_region 1 with fail
  rw [H1.out]
  go_wp2_with(first
   |refine wpList_load_row rfl 32 _ rfl _ rfl 32 _(0,0)_ NA ha rfl ia ?_
   |refine wpList_load_row rfl 41 _ rfl _ rfl 41(Dd.row l)(0,0)_ NS hu rfl il ?_)
  refine Calls.mono CC.out ?_;rintro e W2⟨rfl,hb2⟩;have HX:Hid(Below w.heap.size w W2):=(HF.out W2 hb2).bel;clear hb2 CC NA NS HF;go_wp2;go_ret;exact⟨by rw [HQ.out];rfl,HX.out⟩
 have e0:(c !=0)=false:=by simp [hc0]
 have hwb:wb=true:=by
  cases wb with
  |true=>rfl
  |false=>have h:=HC.out;rw [hc0]at h;simp [Dd.checkI]at h
 obtain⟨i,hil,hi40⟩:=H4.out.2.1 hwb
 have CI:Hid(∀W,Below w.heap.size w W->Calls Tryz.prog 35 #[.slice la m lc, .func(.func 36) #[] #[]]W λe w'=>e= .returned(.int .i64 i)/\Below W.heap.size W w'):=λW hb=>by
  have h:=Tryz.linkIndex_any la m lc ls W((H4.out.2.2.1.keep hb.block).wider hb.size)H4.out.2.2.2(by have:=(H4.out.1 hwb).1;omega);rw [hil]at h;exact h
 obtain⟨v,hv⟩: ∃v,l.getD i 0=v:=⟨_,rfl⟩
 have HQ:Hid(R=decide(v=1)):=by
  have h:=HR.out;rw [if_neg(by omega),hil,show((i:Int)).toNat=i by omega,hv]at h;exact h
 have HV:Hid(l.getD i 0=v/\i<40):=⟨hv,hi40⟩;have p0:(0:Int)<=i:=by omega
 have p1:(i:Int)<40:=by omega
 clear hc0 hwb HR hil hi40 hv
 go_enter Tryz.func21,Tryz.ntmps21
 go_upto_region 1 with fail
 rw [H1.out]
 go_wp2_with(first
  |refine wpList_load_row rfl 32 _ rfl _ rfl 32 _(0,0)_ NA ha rfl ia ?_
  |refine wpList_load_row rfl 41 _ rfl _ rfl 41(Dd.row l)(0,0)_ NS hu rfl il ?_)
 refine Calls.mono CC.out ?_;rintro e W2⟨rfl,hb2⟩;have HF2:Hid(Dd.F2 w #[x0,x1,x2,x3,x4,x5,x6,x7, .slice ka n kc, .slice la m lc,x10,x11]l W2):=HF.out W2 hb2
 have c9:W2.cell? ⟨w.heap.size,9,none⟩=some(.slice la m lc):=by
  have h:=HF2.out.bx;unfold Dd.Bx at h;simp [World.cell?,h]
 clear hb2 CC NA NS HF
 go_wp2_with fail
 refine Calls.mono(CI.out _ HF2.out.bel) ?_;rintro e W3⟨rfl,hb3⟩;have HF3:Hid(Dd.F2 w #[x0,x1,x2,x3,x4,x5,x6,x7, .slice ka n kc, .slice la m lc,x10,x11]l W3):=HF2.out.below hb3;have s1:=HF3.out.st.cell i(by have:=HV.out.2;omega);rw [HV.out.1]at s1;clear hb3 c9
 by_cases h1:v=1
 ·have e1:(v==1)=true:=by simp [h1]
  have HE:Hid(R=true):=by rw [HQ.out];exact decide_eq_true h1
  clear h1 HQ;go_wp2;go_ret;exact⟨by rw [HE.out];rfl,HF3.out.bel⟩
 have e1:(v==1)=false:=by simpa using h1
 have HE:Hid(R=false):=by rw [HQ.out];exact decide_eq_false h1
 clear h1 HQ;go_wp2;go_ret;exact⟨by rw [HE.out];rfl,HF3.out.bel⟩
noncomputable def Dd.webB(T:Ac):Bool:=decide(T.kind=13)&&decide(T.checkC=0)
theorem Tryz.isWeb_any(d e:Nat)(T:Ac)(V:Ac.Vs)(w:World)(hT:Ac.Lies w w.heap.size e d V T)(h0:0<w.heap.size)(hsz:T.size<=2147483647)(hF:T.All Ac.Fit)(hO:Tk.Ops w):
  Calls Tryz.prog 26 #[.agg(Ac.row T V)]w λe w'=>e= .returned(.bool(Dd.webB T))/\Below w.heap.size w w':=by
 obtain⟨R,hR⟩: ∃R,Dd.webB T=R:=⟨_,rfl⟩;rw [hR];obtain⟨k,hk⟩: ∃k,T.kind=k:=⟨_,rfl⟩;obtain⟨x1,x2,x3,x4,x5,x6,x7,x8,x9,x10,x11,hrow⟩: ∃x1 x2 x3 x4 x5 x6 x7 x8 x9 x10 x11,Ac.row T V= #[.int .i64 k,x1,x2,x3,x4,x5,x6,x7,x8,x9,x10,x11]:=⟨_,_,_,_,_,_,_,_,_,_,_,by unfold Ac.row;rw [hk]⟩;obtain⟨w1,hw1⟩: ∃z,w.alloc(.cells(Ac.row T V)32)=z:=⟨_,rfl⟩;have B1:Below w.heap.size w w1:=by rw [<-hw1];exact(Below.refl _ w).alloc(Nat.le_refl _)_
 have N1:w1.heap[w.heap.size]? =some(.cells(Ac.row T V)32(0,0)):=by rw [<-hw1];exact heap_alloc_new w _
 have HC0:=Tryz.aCheck_any d e T V w1((hT.below B1).wider B1.size)(by have:=B1.size;omega)hsz hF(hO.below B1 hO.lt);obtain⟨c,hc⟩: ∃c,T.checkC=c:=⟨_,rfl⟩;rw [hc,hrow]at HC0;rw [hrow]at hw1 N1⊢;have HC:Hid _:=HC0;have H1:Hid _:=hw1;have HB:Hid(Below w.heap.size w w1):=B1
 have HR:Hid(R=(decide(k=13)&&decide(c=0))):=by
  show _=_;rw [<-hR,Dd.webB,hk,hc]
 obtain⟨c0,c1,c2,c3,c4,c5,c6,c7,c8,c9,c10,c11⟩:w1.cell? ⟨w.heap.size,0,none⟩=some(.int .i64 k)/\w1.cell? ⟨w.heap.size,1,none⟩=some x1/\w1.cell? ⟨w.heap.size,2,none⟩=some x2/\w1.cell? ⟨w.heap.size,3,none⟩=some x3/\w1.cell? ⟨w.heap.size,4,none⟩=some x4/\w1.cell? ⟨w.heap.size,5,none⟩=some x5/\w1.cell? ⟨w.heap.size,6,none⟩=some x6/\w1.cell? ⟨w.heap.size,7,none⟩=some x7/\w1.cell? ⟨w.heap.size,8,none⟩=some x8/\w1.cell? ⟨w.heap.size,9,none⟩=some x9/\w1.cell? ⟨w.heap.size,10,none⟩=some x10/\w1.cell? ⟨w.heap.size,11,none⟩=some x11:=by simp [World.cell?,N1]
 clear hR hk hrow hw1 B1 HC0 hc hT h0 hsz hF hO
 by_cases hk13:k=13
 rotate_left
 ·have ek:(k==13)=false:=by simpa using hk13
  have HQ:Hid(R=false):=by rw [HR.out,decide_eq_false hk13,Bool.false_and];exact rfl
  clear hk13 HR HC
  go_enter Tryz.func26,Tryz.ntmps26
  go_upto_region 1 with fail
  rw [H1.out];go_wp2;go_ret;exact⟨by rw [HQ.out];rfl,HB.out⟩
 have ek:(k==13)=true:=by simp [hk13]
 by_cases hc0:c=0
 ·have ec:(c==0)=true:=by simp [hc0]
  have HQ:Hid(R=true):=by rw [HR.out,decide_eq_true hk13,decide_eq_true hc0];rfl
  clear hk13 hc0 HR
  go_enter Tryz.func26,Tryz.ntmps26
  go_upto_region 1 with fail
  rw [H1.out]
  go_wp2_with fail
  refine Calls.mono HC.out ?_;rintro e W2⟨rfl,hb2⟩;have HX:Hid(Below w.heap.size w W2):=HB.out.trans(hb2.mono HB.out.size);clear hb2 HC N1 c0 c1 c2 c3 c4 c5 c6 c7 c8 c9 c10 c11;go_wp2;go_ret;exact⟨by rw [HQ.out];rfl,HX.out⟩
 have ec:(c==0)=false:=by simpa using hc0
 have HQ:Hid(R=false):=by rw [HR.out,decide_eq_false hc0,Bool.and_false];exact rfl
 clear hk13 hc0 HR
 go_enter Tryz.func26,Tryz.ntmps26
 go_upto_region 1 with fail
 rw [H1.out]
 go_wp2_with fail
 refine Calls.mono HC.out ?_;rintro e W2⟨rfl,hb2⟩;have HX:Hid(Below w.heap.size w W2):=HB.out.trans(hb2.mono HB.out.size);clear hb2 HC N1 c0 c1 c2 c3 c4 c5 c6 c7 c8 c9 c10 c11;go_wp2;go_ret;exact⟨by rw [HQ.out];rfl,HX.out⟩
structure Dd.Rw(T:Ac):Prop where
 right:Dd.Right T
 gate: ∀k(h:k<T.ks.length),T.ks[k].kind=12->T.ks[k].a=3->2<=T.ks[k].cs.length
theorem Dd.rw_of {T:Ac} (h:Dd.webB T=true):Dd.Rw T:=by
 unfold Dd.webB at h;rw [Bool.and_eq_true,decide_eq_true_iff,decide_eq_true_iff]at h;obtain⟨h13,hc⟩:=h
 have hg:(T.go Ac.stepF()).1=true:=by
  cases hq:(T.go Ac.stepF()).1 with
  |true=>rfl
  |false=>
   unfold Ac.checkC at hc
   split at hc
   ·cases hc
   rw [if_pos(.inr(.inr hq))]at hc;cases hc
 have hall:=Ac.go_form T()hg;rw [T.all_eq]at hall;refine⟨Dd.right_of((Ac.formed_13 h13).1 hall.1).2.1,λk hk h12 h3=> ?_⟩;have hkid:=Ac.alls_get hall.2 k hk;rw [Ac.all_eq]at hkid;exact((Ac.formed_12a h12 h3).1 hkid.1).2.2.1
theorem Dd.last_of {T:Ac} (h:Dd.Right T): ∃i:Nat,Dd.lastI T.ls=i/\i<40:=by
 have h1:=h.last;have l40:=h.web.l40
 have: ∃x∈T.ls,decide(x.2= -1)=true:=by
  have:0<T.ls.countP λl=>decide(l.2= -1):=by omega
  exact List.countP_pos_iff.1 this
 unfold Dd.lastI
 cases hq:T.ls.findIdx? (λx=>decide(x.2= -1))with
 |none=>
  obtain⟨x,hx,hx2⟩:=this;have:=List.findIdx?_eq_none_iff.1 hq x hx;rw [hx2]at this
  cases this
 |some i=>exact⟨i,rfl,by have:=(List.findIdx?_eq_some_iff_getElem.1 hq).1;omega⟩
theorem Dd.kds_of {w:World} {B e d:Nat} {V:Ac.Vs} {T:Ac} (h:Ac.Lies w B e d V T): ∃a cap,V.k= .slice a T.ks.length cap/\Dd.Kds w B a(Dd.kkOf T):=by
 cases d with
 |zero=>exact h.elim
 |succ d=>
  obtain⟨_,a,cap,hv,hk⟩:=h;refine⟨a,cap,hv,λj hj=> ?_⟩;rw [Dd.kkOf_length]at hj;obtain⟨g,off,U,ha,hg,hr,_⟩:=hk j hj;have h0:=hr 0(by simp [Ac.row]);have h2:=hr 2(by simp [Ac.row]);refine⟨g,off,ha,hg, ?_, ?_⟩
  ·rw [Nat.add_zero]at h0;rw [h0];simp [Ac.row,Dd.kkOf]
  rw [h2];simp [Ac.row,Dd.kkOf]
structure Dd.Ctx(w:World)(xs:Array Value)(wb:Bool)(ls kk:List(Int×Int)):Prop where
 start: ∀W,Below w.heap.size w W->Calls Tryz.prog 11 #[.agg xs]W λe w'=>e= .returned(Dd.two(Dd.startR wb ls kk))/\Below W.heap.size W w'
 finish: ∀W l(kid:Int),Below w.heap.size w W->l.length=104->Calls Tryz.prog 17 #[.agg xs, .agg(Dd.row l), .int .i64 kid]W λe w'=>e= .returned(Dd.two(Dd.finR wb ls kk l kid))/\Below W.heap.size W w'
 choose: ∀W l(kid out:Int),Below w.heap.size w W->l.length=104-> -9223372036854775808<=out->out<=9223372036854775807->Calls Tryz.prog 23 #[.agg xs, .agg(Dd.row l), .int .i64 kid, .int .i64 out]W λe w'=>e= .returned(Dd.two(Dd.choR wb ls kk l kid out))/\Below W.heap.size W w'
 running: ∀W l,Below w.heap.size w W->l.length=104->Calls Tryz.prog 14 #[.agg xs, .agg(Dd.row l)]W λe w'=>Nt.Gives(Dd.runL wb kk.length ls.length l)W e w'
 over: ∀W l,Below w.heap.size w W->l.length=104->Calls Tryz.prog 21 #[.agg xs, .agg(Dd.row l)]W λe w'=>e= .returned(.bool(Dd.overB wb kk.length ls l))/\Below W.heap.size W w'
 check: ∀W l,Below w.heap.size w W->l.length=104->Calls Tryz.prog 19 #[.agg xs, .agg(Dd.row l)]W λe w'=>e= .returned(.int .i64(Dd.checkI wb kk.length ls.length l))/\Below W.heap.size W w'
theorem Dd.ctx(d e:Nat)(T:Ac)(V:Ac.Vs)(w:World)(hT:Ac.Lies w w.heap.size e d V T)(h0:0<w.heap.size)(hsz:T.size<=2147483647)(hF:T.All Ac.Fit)(hO:Tk.Ops w):Dd.Ctx w(Ac.row T V)(Dd.webB T)T.ls(Dd.kkOf T):=by
 obtain⟨ka,kc,hvk,hK⟩:=Dd.kds_of hT;obtain⟨la,lc,hvl,hL⟩:=hT.own.l;obtain⟨x0,x1,x2,x3,x4,x5,x6,x7,x10,x11,hrow⟩: ∃x0 x1 x2 x3 x4 x5 x6 x7 x10 x11,Ac.row T V= #[x0,x1,x2,x3,x4,x5,x6,x7, .slice ka T.ks.length kc, .slice la T.ls.length lc,x10,x11]:=⟨_,_,_,_,_,_,_,_,_,_,by unfold Ac.row;rw [hvk,hvl]⟩;have hn:(Dd.kkOf T).length=T.ks.length:=Dd.kkOf_length T
 have CW: ∀W,Below w.heap.size w W->Calls Tryz.prog 26 #[.agg(Ac.row T V)]W λe w'=>e= .returned(.bool(Dd.webB T))/\Below W.heap.size W w':=λW hb=>
  Tryz.isWeb_any d e T V W((hT.below hb).wider hb.size)(by have:=hb.size;omega)hsz hF(hO.below hb hO.lt)
 have hW:Dd.webB T=true->Dd.Web T.ls(Dd.kkOf T):=λh=>(Dd.rw_of h).right.web;have h40:Dd.webB T=true->T.ls.length<=40/\T.ks.length<=64:=λh=>⟨(hW h).l40,by rw [<-hn];exact(hW h).k64⟩;rw [hrow]at CW⊢;have LK: ∀W,Below w.heap.size w W->Ac.Lks W W.heap.size la T.ls/\Dd.Kds W W.heap.size ka(Dd.kkOf T):=λW hb=>⟨(hL.keep hb.block).wider hb.size,(hK.keep hb.block).wider hb.size⟩;have up: ∀ {W W':World},Below w.heap.size w W->Below W.heap.size W W'->Below w.heap.size w W':=λh h'=>h.trans(h'.mono h.size);refine⟨λW hb=> ?_,λW l kid hb hl=> ?_,λW l kid out hb hl o0 o1=> ?_,λW l hb hl=> ?_,λW l hb hl=> ?_,λW l hb hl=> ?_⟩
 ·exact Tryz.deadStart_any x0 x1 x2 x3 x4 x5 x6 x7 x10 x11 ka la T.ks.length kc T.ls.length lc T.ls(Dd.kkOf T)(Dd.webB T)W(LK W hb).1(LK W hb).2 rfl hn hW(λW' hb'=>CW W'(up hb hb'))
 ·exact Tryz.deadFinish_any x0 x1 x2 x3 x4 x5 x6 x7 x10 x11 ka la T.ks.length kc T.ls.length lc T.ls(Dd.kkOf T)l kid(Dd.webB T)W(LK W hb).1(LK W hb).2 hl rfl hn hW(λW' hb'=>CW W'(up hb hb'))
 ·exact Tryz.deadChoose_any x0 x1 x2 x3 x4 x5 x6 x7 x10 x11 ka la T.ks.length kc T.ls.length lc T.ls(Dd.kkOf T)l kid out(Dd.webB T)W(LK W hb).1(LK W hb).2 hl rfl hn hW o0 o1(λW' hb'=>CW W'(up hb hb'))
 ·rw [hn]
  exact Tryz.deadRunning_any x0 x1 x2 x3 x4 x5 x6 x7 x10 x11 ka la T.ks.length kc T.ls.length lc l(Dd.webB T)W hl h40(λW' hb'=>CW W'(up hb hb'))
 ·rw [hn]
  exact Tryz.deadOver_any x0 x1 x2 x3 x4 x5 x6 x7 x10 x11 ka la T.ks.length kc T.ls.length lc T.ls l(Dd.webB T)W(LK W hb).1 rfl hl h40(λh=>Dd.last_of(Dd.rw_of h).right)(λW' hb'=>CW W'(up hb hb'))
 rw [hn];exact Tryz.deadCheck_any x0 x1 x2 x3 x4 x5 x6 x7 x10 x11 ka la T.ks.length kc T.ls.length lc l(Dd.webB T)W hl h40(λW' hb'=>CW W'(up hb hb'))
end Go.Proofs
namespace Go.Proofs
open Go.RowKit
namespace Dd
def exZ:Tm:= .mk 0 0 []
def exY:Tm:= .mk 10 0 [.mk 2 0 [], .mk 2 0 []]
def ex0:Ac:= .mk 12 0 3 1 exZ [exY,exZ] [] [] [] []
def ex1:Ac:= .mk 5 1 0 0 exZ [] [] [] [] []
def ex2:Ac:= .mk 12 2 4 0 exZ [] [] [] [] []
def exL:List(Int×Int):= [(-1,0),(0,1),(0,2),(1,2),(2,-1)]
def exT:Ac:= .mk 13 0 0 0 exZ [] [ex0,ex1,ex2]exL [] []
def exK:List(Int×Int):= [(12,3),(5,0),(12,4)]
theorem lead_lt {es:List(Nat×Nat)} (h: ∀e∈es,e.1<e.2) {a b:Nat} (hr:Rk.Reach es a b):a<=b:=by
 induction hr with
 |refl=>exact Nat.le_refl _
 |step _ m ih=>have:=h _ m;dsimp only at this;omega
theorem ex_free:Ac.freeB 3(Ac.bet exL)=true:=by
 have hb:Ac.bet exL= [(0,1),(0,2),(1,2)]:=by kernel_rfl
 unfold Ac.freeB;have hc:Rk.chk(3:Nat) [((0:Int),(1:Int)),(0,2),(1,2)]=0:=by kernel_rfl
 rw [hb,hc,if_neg(by decide)];rw [List.isEmpty_iff,List.filter_eq_nil_iff];intro i _ hi;rw [Rk.lead_iff]at hi;obtain⟨b,h1,h2⟩:=hi;have hlt: ∀e∈ [((0:Int),(1:Int)),(0,2),(1,2)].map(λe=>(e.1.toNat,e.2.toNat)),e.1<e.2:=by decide
 have h3:=lead_lt hlt h1;have h4:=hlt _ h2;dsimp only at h4;omega
theorem ex_linked:exT.linkedB=true:=by
 have h1:Ac.freeB exT.ks.length(Ac.bet exT.ls)=true:=ex_free;unfold Ac.linkedB;rw [h1,Bool.and_true];show _=_
 kernel_rfl
theorem ex_same(T:Ac)(h:T.rest=Ac.zeroOf T.kind):Ac.Same1 T.rest(Ac.zeroOf T.kind):=by rw [h];exact⟨rfl,rfl,rfl,rfl,rfl,rfl,rfl,rfl,rfl⟩
theorem ex_form:exT.Formed:=(Ac.formed_13 rfl).2⟨by kernel_rfl,ex_linked,ex_same exT(by kernel_rfl),trivial⟩
theorem ex_form0:ex0.Formed:=(Ac.formed_12a rfl rfl).2⟨by kernel_rfl,⟨by decide,by decide⟩,by decide,by kernel_rfl,⟨by decide,by decide⟩,trivial,trivial,ex_same ex0(by kernel_rfl),rfl⟩
theorem ex_form1:ex1.Formed:=(Ac.formed_5 rfl).2⟨by kernel_rfl,⟨by decide,by decide⟩,ex_same ex1(by kernel_rfl),rfl⟩
theorem ex_form2:ex2.Formed:=(Ac.formed_12b rfl(by decide)).2⟨by kernel_rfl,⟨by decide,by decide⟩,by decide,⟨by decide,by decide⟩,ex_same ex2(by kernel_rfl),rfl⟩
theorem ex_go:(exT.go Ac.stepF()).1=true:=by
 have f:=(Ac.formB_iff exT).2 ex_form;have f0:=(Ac.formB_iff ex0).2 ex_form0;have f1:=(Ac.formB_iff ex1).2 ex_form1;have f2:=(Ac.formB_iff ex2).2 ex_form2
 have leaf: ∀x:Ac,x.formB=true->x.ks= []->(x.go Ac.stepF()).1=true:=λx hx hk=>by
  rw [Ac.go_eq,if_pos(show(Ac.stepF x()).1=true from hx),hk];rfl
 rw [Ac.go_eq,if_pos(show(Ac.stepF exT()).1=true from f)];show(Ac.goes Ac.stepF [ex0,ex1,ex2]_).1=true;rw [Ac.goes,if_pos(leaf ex0 f0 rfl),Ac.goes,if_pos(leaf ex1 f1 rfl),Ac.goes,if_pos(leaf ex2 f2 rfl)];rfl
theorem ex_web:webB exT=true:=by
 have hc:exT.checkC=0:=by
  have h1:exT.tooB=false:=by kernel_rfl
  have h2:exT.twiceB=false:=by kernel_rfl
  unfold Ac.checkC;rw [h1,h2,if_neg(by decide),if_neg(λh=> ?_),if_neg(by decide)]
  rcases h with h|h|h
  ·exact absurd h(by decide)
  ·exact absurd h(by decide)
  rw [ex_go]at h;cases h
 unfold webB;rw [hc];rfl
def exS:List Int:=start exL exK
def exS1:List Int:=chose exL exK exS 0 2
theorem ex_start:startR true exL exK=(exS,0):=rfl
theorem exS_length:exS.length=104:=by kernel_rfl
theorem exS1_length:exS1.length=104:=by kernel_rfl
theorem ex_choose:choR true exL exK exS 0 1=(exS1,0):=by
 have h1:checkI true exK.length exL.length exS=0:=by kernel_rfl
 have h2:runsB exK.length exS 0=true:=by kernel_rfl
 have h3:gateB exK(0:Int).toNat=true:=by kernel_rfl
 have h4:linkAt 0 exL 0 1=2:=by kernel_rfl
 unfold choR;rw [h1,if_neg(by decide),h2,h3,if_neg(by decide),h4,if_neg(by decide)];rfl
theorem ex_run:(runL true exK.length exL.length exS).length=1:=by kernel_rfl
theorem ex_skip:exS1.getD 41 0=3:=by kernel_rfl
theorem ex_over1:overB true exK.length exL exS1=true:=by kernel_rfl
theorem ex_over0:overB true exK.length exL exS=false:=by kernel_rfl
theorem ex_fit:exT.All Ac.Fit:=by
 have leaf: ∀x:Ac,x.ks= []->x.Fit->x.All Ac.Fit:=λx hk hf=>by rw [Ac.all_eq,hk];exact⟨hf,trivial⟩
 have z:exZ.size<=2147483647/\exZ.depth<=1000:=⟨by decide,by decide⟩;have y:exY.size<=2147483647/\exY.depth<=1000:=⟨by decide,by decide⟩;have nil: ∀ {α:Type} {P:α->Prop},∀x∈([]:List α),P x:=λx hx=>by cases hx
 refine⟨⟨z,nil,nil,nil,by decide,by decide,by decide,by decide,by decide⟩,leaf ex0 rfl⟨z,λx hx=> ?_,nil,nil,by decide,by decide,by decide,by decide,by decide⟩,leaf ex1 rfl⟨z,nil,nil,nil,by decide,by decide,by decide,by decide,by decide⟩,leaf ex2 rfl⟨z,nil,nil,nil,by decide,by decide,by decide,by decide,by decide⟩,trivial⟩
 rcases List.mem_cons.1 hx with rfl|hx
 ·exact y
 rcases List.mem_cons.1 hx with rfl|hx
 ·exact z
 cases hx
end Dd
end Go.Proofs
namespace Go.Proofs
open Go.RowKit Go.Shelf
theorem Dd.load_want {ops:Array Oper} {rest:List Oper} {o:Oper} {a:Act} {w:World} {Q:Exit->Act->World->Prop} (hw:Region.wanted o(yielded ops a.tmps)=true)(ty:TypeId)(x:Operand)(ho:o.op= .load ty x)
  (b p:Nat)(hx:a.eval x= .pointer(some⟨b,p,none⟩))(cs:List Value)(d:TypeDesc)(hr:w.rangeAt b p cs)(hu:Tryz.prog.underlying ty=some d)(hd:d.isRow=true)(hi:(Tryz.prog.info? ty).map(·.size)=some cs.length)
  (h:wpList Tryz.prog ops Q rest(a.put o.dst(.agg cs.toArray))w):wpList Tryz.prog ops Q(o::rest)a w:=
 wpList_step λK hK=>by
  simp only [hw,if_true];unfold Oper.wp execOp;simp only [ho,hx,Instr.loadAt,Instr.sureAddr,Sem.run_bind,Sem.run_pure,Result.andThen_ok,run_loadVar_mid w b p ty cs d hr hu hd hi];exact hK _ _ h
theorem Dd.ints_len {l:List Int} (h:l.length=104):(Tryz.prog.info? 41).map(·.size)=some(Dd.ints l).length:=by
 have:=Dd.info_row h;rw [Dd.row_size]at this;rw [this];simp [Dd.ints]
structure Dd.ExAt(w w1:World):Prop where
 a:w1.heap[w.heap.size]? =some(.cells #[.int .i64 2, .int .i64 0, .slice none 0 0, .int .i64 2, .int .i64 0, .slice none 0 0]24(0,0))
 t:w1.heap[w.heap.size+1]? =some(.cells #[.int .i64 10, .int .i64 0, .slice(some⟨w.heap.size,0,none⟩)2 2]24(0,0))
 c:w1.heap[w.heap.size+1+1]? =some(.cells #[.int .i64 10, .int .i64 0, .slice(some⟨w.heap.size,0,none⟩)2 2, .int .i64 0, .int .i64 0, .slice none 0 0]24(0,0))
 k:w1.heap[w.heap.size+1+1+1]? =some(.cells #[.int .i64 12, .int .i64 0, .int .i64 3, .int .i64 1, .int .i64 0, .int .i64 0, .slice none 0 0, .slice(some⟨w.heap.size+1+1,0,none⟩)2 2, .slice none 0 0, .slice none 0 0, .slice none 0 0, .slice none 0 0, .int .i64 5, .int .i64 1, .int .i64 0, .int .i64 0, .int .i64 0, .int .i64 0, .slice none 0 0, .slice none 0 0, .slice none 0 0, .slice none 0 0, .slice none 0 0, .slice none 0 0, .int .i64 12, .int .i64 2, .int .i64 4, .int .i64 0, .int .i64 0, .int .i64 0, .slice none 0 0, .slice none 0 0, .slice none 0 0, .slice none 0 0, .slice none 0 0, .slice none 0 0]32(0,0))
 l:w1.heap[w.heap.size+1+1+1+1]? =some(.cells #[.int .i64(-1), .int .i64 0, .int .i64 0, .int .i64 1, .int .i64 0, .int .i64 2, .int .i64 1, .int .i64 2, .int .i64 2, .int .i64(-1)]80(0,0))
 r:w1.heap[w.heap.size+1+1+1+1+1]? =some(.cells #[.int .i64 13, .int .i64 0, .int .i64 0, .int .i64 0, .int .i64 0, .int .i64 0, .slice none 0 0, .slice none 0 0, .slice(some⟨w.heap.size+1+1+1,0,none⟩)3 3, .slice(some⟨w.heap.size+1+1+1+1,0,none⟩)5 5, .slice none 0 0, .slice none 0 0]32(0,0))
 bel:Below w.heap.size w w1
theorem Dd.ex_at(w:World):Dd.ExAt w((((((w.alloc(.cells #[.int .i64 2, .int .i64 0, .slice none 0 0, .int .i64 2, .int .i64 0, .slice none 0 0]24)).alloc(.cells #[.int .i64 10, .int .i64 0, .slice(some⟨w.heap.size,0,none⟩)2 2]24)).alloc(.cells #[.int .i64 10, .int .i64 0, .slice(some⟨w.heap.size,0,none⟩)2 2, .int .i64 0, .int .i64 0, .slice none 0 0]24)).alloc(.cells #[.int .i64 12, .int .i64 0, .int .i64 3, .int .i64 1, .int .i64 0, .int .i64 0, .slice none 0 0, .slice(some⟨w.heap.size+1+1,0,none⟩)2 2, .slice none 0 0, .slice none 0 0, .slice none 0 0, .slice none 0 0, .int .i64 5, .int .i64 1, .int .i64 0, .int .i64 0, .int .i64 0, .int .i64 0, .slice none 0 0, .slice none 0 0, .slice none 0 0, .slice none 0 0, .slice none 0 0, .slice none 0 0, .int .i64 12, .int .i64 2, .int .i64 4, .int .i64 0, .int .i64 0, .int .i64 0, .slice none 0 0, .slice none 0 0, .slice none 0 0, .slice none 0 0, .slice none 0 0, .slice none 0 0]32)).alloc(.cells #[.int .i64(-1), .int .i64 0, .int .i64 0, .int .i64 1, .int .i64 0, .int .i64 2, .int .i64 1, .int .i64 2, .int .i64 2, .int .i64(-1)]80)).alloc(.cells #[.int .i64 13, .int .i64 0, .int .i64 0, .int .i64 0, .int .i64 0, .int .i64 0, .slice none 0 0, .slice none 0 0, .slice(some⟨w.heap.size+1+1+1,0,none⟩)3 3, .slice(some⟨w.heap.size+1+1+1+1,0,none⟩)5 5, .slice none 0 0, .slice none 0 0]32)):=by
 obtain⟨v0,hv0⟩: ∃z,w.alloc(.cells #[.int .i64 2, .int .i64 0, .slice none 0 0, .int .i64 2, .int .i64 0, .slice none 0 0]24)=z:=⟨_,rfl⟩;obtain⟨v1,hv1⟩: ∃z,v0.alloc(.cells #[.int .i64 10, .int .i64 0, .slice(some⟨w.heap.size,0,none⟩)2 2]24)=z:=⟨_,rfl⟩;obtain⟨v2,hv2⟩: ∃z,v1.alloc(.cells #[.int .i64 10, .int .i64 0, .slice(some⟨w.heap.size,0,none⟩)2 2, .int .i64 0, .int .i64 0, .slice none 0 0]24)=z:=⟨_,rfl⟩;obtain⟨v3,hv3⟩: ∃z,v2.alloc(.cells #[.int .i64 12, .int .i64 0, .int .i64 3, .int .i64 1, .int .i64 0, .int .i64 0, .slice none 0 0, .slice(some⟨w.heap.size+1+1,0,none⟩)2 2, .slice none 0 0, .slice none 0 0, .slice none 0 0, .slice none 0 0, .int .i64 5, .int .i64 1, .int .i64 0, .int .i64 0, .int .i64 0, .int .i64 0, .slice none 0 0, .slice none 0 0, .slice none 0 0, .slice none 0 0, .slice none 0 0, .slice none 0 0, .int .i64 12, .int .i64 2, .int .i64 4, .int .i64 0, .int .i64 0, .int .i64 0, .slice none 0 0, .slice none 0 0, .slice none 0 0, .slice none 0 0, .slice none 0 0, .slice none 0 0]32)=z:=⟨_,rfl⟩;obtain⟨v4,hv4⟩: ∃z,v3.alloc(.cells #[.int .i64(-1), .int .i64 0, .int .i64 0, .int .i64 1, .int .i64 0, .int .i64 2, .int .i64 1, .int .i64 2, .int .i64 2, .int .i64(-1)]80)=z:=⟨_,rfl⟩
 obtain⟨v5,hv5⟩: ∃z,v4.alloc(.cells #[.int .i64 13, .int .i64 0, .int .i64 0, .int .i64 0, .int .i64 0, .int .i64 0, .slice none 0 0, .slice none 0 0, .slice(some⟨w.heap.size+1+1+1,0,none⟩)3 3, .slice(some⟨w.heap.size+1+1+1+1,0,none⟩)5 5, .slice none 0 0, .slice none 0 0]32)=z:=⟨_,rfl⟩;have z0:v0.heap.size=w.heap.size+1:=by rw [<-hv0];simp
 have z1:v1.heap.size=w.heap.size+1+1:=by rw [<-hv1];simp [z0]
 have z2:v2.heap.size=w.heap.size+1+1+1:=by rw [<-hv2];simp [z1]
 have z3:v3.heap.size=w.heap.size+1+1+1+1:=by rw [<-hv3];simp [z2]
 have z4:v4.heap.size=w.heap.size+1+1+1+1+1:=by rw [<-hv4];simp [z3]
 have z5:v5.heap.size=w.heap.size+1+1+1+1+1+1:=by rw [<-hv5];simp [z4]
 have b0:Below w.heap.size w v0:=by rw [<-hv0];exact(Below.refl _ w).alloc(Nat.le_refl _)_
 have n0:v0.heap[w.heap.size]? =some(.cells #[.int .i64 2, .int .i64 0, .slice none 0 0, .int .i64 2, .int .i64 0, .slice none 0 0]24(0,0)):=by rw [<-hv0];have:=heap_alloc_new w(.cells #[.int .i64 2, .int .i64 0, .slice none 0 0, .int .i64 2, .int .i64 0, .slice none 0 0]24);exact this
 have b1:Below v0.heap.size v0 v1:=by rw [<-hv1];exact(Below.refl _ v0).alloc(Nat.le_refl _)_
 have n1:v1.heap[w.heap.size+1]? =some(.cells #[.int .i64 10, .int .i64 0, .slice(some⟨w.heap.size,0,none⟩)2 2]24(0,0)):=by rw [<-hv1];have:=heap_alloc_new v0(.cells #[.int .i64 10, .int .i64 0, .slice(some⟨w.heap.size,0,none⟩)2 2]24);rw [z0]at this;exact this
 have b2:Below v1.heap.size v1 v2:=by rw [<-hv2];exact(Below.refl _ v1).alloc(Nat.le_refl _)_
 have n2:v2.heap[w.heap.size+1+1]? =some(.cells #[.int .i64 10, .int .i64 0, .slice(some⟨w.heap.size,0,none⟩)2 2, .int .i64 0, .int .i64 0, .slice none 0 0]24(0,0)):=by rw [<-hv2];have:=heap_alloc_new v1(.cells #[.int .i64 10, .int .i64 0, .slice(some⟨w.heap.size,0,none⟩)2 2, .int .i64 0, .int .i64 0, .slice none 0 0]24);rw [z1]at this;exact this
 have b3:Below v2.heap.size v2 v3:=by rw [<-hv3];exact(Below.refl _ v2).alloc(Nat.le_refl _)_
 have n3:v3.heap[w.heap.size+1+1+1]? =some(.cells #[.int .i64 12, .int .i64 0, .int .i64 3, .int .i64 1, .int .i64 0, .int .i64 0, .slice none 0 0, .slice(some⟨w.heap.size+1+1,0,none⟩)2 2, .slice none 0 0, .slice none 0 0, .slice none 0 0, .slice none 0 0, .int .i64 5, .int .i64 1, .int .i64 0, .int .i64 0, .int .i64 0, .int .i64 0, .slice none 0 0, .slice none 0 0, .slice none 0 0, .slice none 0 0, .slice none 0 0, .slice none 0 0, .int .i64 12, .int .i64 2, .int .i64 4, .int .i64 0, .int .i64 0, .int .i64 0, .slice none 0 0, .slice none 0 0, .slice none 0 0, .slice none 0 0, .slice none 0 0, .slice none 0 0]32(0,0)):=by rw [<-hv3];have:=heap_alloc_new v2(.cells #[.int .i64 12, .int .i64 0, .int .i64 3, .int .i64 1, .int .i64 0, .int .i64 0, .slice none 0 0, .slice(some⟨w.heap.size+1+1,0,none⟩)2 2, .slice none 0 0, .slice none 0 0, .slice none 0 0, .slice none 0 0, .int .i64 5, .int .i64 1, .int .i64 0, .int .i64 0, .int .i64 0, .int .i64 0, .slice none 0 0, .slice none 0 0, .slice none 0 0, .slice none 0 0, .slice none 0 0, .slice none 0 0, .int .i64 12, .int .i64 2, .int .i64 4, .int .i64 0, .int .i64 0, .int .i64 0, .slice none 0 0, .slice none 0 0, .slice none 0 0, .slice none 0 0, .slice none 0 0, .slice none 0 0]32);rw [z2]at this;exact this
 have b4:Below v3.heap.size v3 v4:=by rw [<-hv4];exact(Below.refl _ v3).alloc(Nat.le_refl _)_
 have n4:v4.heap[w.heap.size+1+1+1+1]? =some(.cells #[.int .i64(-1), .int .i64 0, .int .i64 0, .int .i64 1, .int .i64 0, .int .i64 2, .int .i64 1, .int .i64 2, .int .i64 2, .int .i64(-1)]80(0,0)):=by rw [<-hv4];have:=heap_alloc_new v3(.cells #[.int .i64(-1), .int .i64 0, .int .i64 0, .int .i64 1, .int .i64 0, .int .i64 2, .int .i64 1, .int .i64 2, .int .i64 2, .int .i64(-1)]80);rw [z3]at this;exact this
 have b5:Below v4.heap.size v4 v5:=by rw [<-hv5];exact(Below.refl _ v4).alloc(Nat.le_refl _)_
 have n5:v5.heap[w.heap.size+1+1+1+1+1]? =some(.cells #[.int .i64 13, .int .i64 0, .int .i64 0, .int .i64 0, .int .i64 0, .int .i64 0, .slice none 0 0, .slice none 0 0, .slice(some⟨w.heap.size+1+1+1,0,none⟩)3 3, .slice(some⟨w.heap.size+1+1+1+1,0,none⟩)5 5, .slice none 0 0, .slice none 0 0]32(0,0)):=by rw [<-hv5];have:=heap_alloc_new v4(.cells #[.int .i64 13, .int .i64 0, .int .i64 0, .int .i64 0, .int .i64 0, .int .i64 0, .slice none 0 0, .slice none 0 0, .slice(some⟨w.heap.size+1+1+1,0,none⟩)3 3, .slice(some⟨w.heap.size+1+1+1+1,0,none⟩)5 5, .slice none 0 0, .slice none 0 0]32);rw [z4]at this;exact this
 rw [hv0,hv1,hv2,hv3,hv4,hv5];have bb:Below w.heap.size w v5:=((((b0.trans(b1.mono(by omega))).trans(b2.mono(by omega))).trans(b3.mono(by omega))).trans(b4.mono(by omega))).trans(b5.mono(by omega));exact⟨((b5.block _(by omega)).trans((b4.block _(by omega)).trans((b3.block _(by omega)).trans((b2.block _(by omega)).trans((b1.block _(by omega)).trans n0))))),((b5.block _(by omega)).trans((b4.block _(by omega)).trans((b3.block _(by omega)).trans((b2.block _(by omega)).trans n1)))),((b5.block _(by omega)).trans((b4.block _(by omega)).trans((b3.block _(by omega)).trans n2))),((b5.block _(by omega)).trans((b4.block _(by omega)).trans n3)),((b5.block _(by omega)).trans n4),n5,bb⟩
theorem Dd.ex_row {w1:World} {g o:Nat} {cs r:Array Value} {ty:TypeId} {fr:Nat×Nat} (h:w1.heap[g]? =some(.cells cs ty fr))(hr: ∀i(hi:i<r.size),cs[o+i]? =some r[i]):Ac.Row w1 g o r:=λi hi=>by
 simp only [World.cell?,h];rw [hr i hi];rfl
theorem Dd.ex_lies {w w1:World} (h:Dd.ExAt w w1):Ac.Lies w1 w1.heap.size 2 2⟨.slice none 0 0, .slice none 0 0, .slice(some⟨w.heap.size+1+1+1,0,none⟩)3 3, .slice(some⟨w.heap.size+1+1+1+1,0,none⟩)5 5, .slice none 0 0, .slice none 0 0⟩Dd.exT:=by
 have lt: ∀ {k:Nat} {o:Obj},w1.heap[k]? =some o->k<w1.heap.size:=λh=>(Array.getElem?_eq_some_iff.1 h).1
 have ly:Tm.Lies w1 w1.heap.size 2(.slice(some⟨w.heap.size,0,none⟩)2 2)Dd.exY:=⟨_,_,rfl, .inr⟨w.heap.size,0,rfl,lt h.a,λj hj=>by
  match j,hj with
  |0,_=>exact⟨.slice none 0 0,by simp only [World.cell?,h.a];rfl,by simp only [World.cell?,h.a];rfl,by simp only [World.cell?,h.a];rfl,⟨none,0,rfl, .inl rfl⟩⟩
  |1,_=>exact⟨.slice none 0 0,by simp only [World.cell?,h.a];rfl,by simp only [World.cell?,h.a];rfl,by simp only [World.cell?,h.a];rfl,⟨none,0,rfl, .inl rfl⟩⟩⟩⟩
 have l0:Ac.Lies w1 w1.heap.size 2 1⟨.slice none 0 0, .slice(some⟨w.heap.size+1+1,0,none⟩)2 2, .slice none 0 0, .slice none 0 0, .slice none 0 0, .slice none 0 0⟩Dd.ex0:=⟨⟨Tm.lies_any w1 _ 1,⟨_,_,rfl,λj hj=>by
  match j,hj with
  |0,_=>exact⟨w.heap.size+1+1,0,_,rfl,lt h.c,by simp only [World.cell?,h.c];rfl,by simp only [World.cell?,h.c];rfl,by simp only [World.cell?,h.c];rfl,ly⟩
  |1,_=>exact⟨w.heap.size+1+1,0,_,rfl,lt h.c,by simp only [World.cell?,h.c];rfl,by simp only [World.cell?,h.c];rfl,by simp only [World.cell?,h.c];rfl,Tm.lies_any w1 _ 1⟩⟩,⟨none,0,rfl,λj h=>absurd h(Nat.not_lt_zero j)⟩,⟨none,0,rfl,λj h=>absurd h(Nat.not_lt_zero j)⟩,⟨none,0,rfl,λj h=>absurd h(Nat.not_lt_zero j)⟩⟩,none,0,rfl,λj hj=>absurd hj(Nat.not_lt_zero j)⟩
 have l1:Ac.Lies w1 w1.heap.size 2 1⟨.slice none 0 0, .slice none 0 0, .slice none 0 0, .slice none 0 0, .slice none 0 0, .slice none 0 0⟩Dd.ex1:=⟨⟨Tm.lies_any w1 _ 1,⟨none,0,rfl,λj h=>absurd h(Nat.not_lt_zero j)⟩,⟨none,0,rfl,λj h=>absurd h(Nat.not_lt_zero j)⟩,⟨none,0,rfl,λj h=>absurd h(Nat.not_lt_zero j)⟩,⟨none,0,rfl,λj h=>absurd h(Nat.not_lt_zero j)⟩⟩,none,0,rfl,λj hj=>absurd hj(Nat.not_lt_zero j)⟩;have l2:Ac.Lies w1 w1.heap.size 2 1⟨.slice none 0 0, .slice none 0 0, .slice none 0 0, .slice none 0 0, .slice none 0 0, .slice none 0 0⟩Dd.ex2:=⟨⟨Tm.lies_any w1 _ 1,⟨none,0,rfl,λj h=>absurd h(Nat.not_lt_zero j)⟩,⟨none,0,rfl,λj h=>absurd h(Nat.not_lt_zero j)⟩,⟨none,0,rfl,λj h=>absurd h(Nat.not_lt_zero j)⟩,⟨none,0,rfl,λj h=>absurd h(Nat.not_lt_zero j)⟩⟩,none,0,rfl,λj hj=>absurd hj(Nat.not_lt_zero j)⟩;have i12: ∀ {i:Nat},i<12->i=0∨i=1∨i=2∨i=3∨i=4∨i=5∨i=6∨i=7∨i=8∨i=9∨i=10∨i=11:=by omega
 refine⟨⟨Tm.lies_any w1 _ 1,⟨none,0,rfl,λj h=>absurd h(Nat.not_lt_zero j)⟩,⟨_,_,rfl,λj hj=>by
  match j,hj with
  |0,_=>exact⟨w.heap.size+1+1+1+1,0,rfl,lt h.l,by simp only [World.cell?,h.l];rfl,by simp only [World.cell?,h.l];rfl⟩
  |1,_=>exact⟨w.heap.size+1+1+1+1,0,rfl,lt h.l,by simp only [World.cell?,h.l];rfl,by simp only [World.cell?,h.l];rfl⟩
  |2,_=>exact⟨w.heap.size+1+1+1+1,0,rfl,lt h.l,by simp only [World.cell?,h.l];rfl,by simp only [World.cell?,h.l];rfl⟩
  |3,_=>exact⟨w.heap.size+1+1+1+1,0,rfl,lt h.l,by simp only [World.cell?,h.l];rfl,by simp only [World.cell?,h.l];rfl⟩
  |4,_=>exact⟨w.heap.size+1+1+1+1,0,rfl,lt h.l,by simp only [World.cell?,h.l];rfl,by simp only [World.cell?,h.l];rfl⟩⟩,⟨none,0,rfl,λj h=>absurd h(Nat.not_lt_zero j)⟩,⟨none,0,rfl,λj h=>absurd h(Nat.not_lt_zero j)⟩⟩,_,_,rfl,λj hj=> ?_⟩
 match j,hj with
 |0,_=>exact⟨w.heap.size+1+1+1,0,⟨.slice none 0 0, .slice(some⟨w.heap.size+1+1,0,none⟩)2 2, .slice none 0 0, .slice none 0 0, .slice none 0 0, .slice none 0 0⟩,rfl,lt h.k,Dd.ex_row h.k(λi hi=>by rcases i12 hi with rfl|rfl|rfl|rfl|rfl|rfl|rfl|rfl|rfl|rfl|rfl|rfl<;>rfl),l0⟩
 |1,_=>exact⟨w.heap.size+1+1+1,0,⟨.slice none 0 0, .slice none 0 0, .slice none 0 0, .slice none 0 0, .slice none 0 0, .slice none 0 0⟩,rfl,lt h.k,Dd.ex_row h.k(λi hi=>by rcases i12 hi with rfl|rfl|rfl|rfl|rfl|rfl|rfl|rfl|rfl|rfl|rfl|rfl<;>rfl),l1⟩
 |2,_=>exact⟨w.heap.size+1+1+1,0,⟨.slice none 0 0, .slice none 0 0, .slice none 0 0, .slice none 0 0, .slice none 0 0, .slice none 0 0⟩,rfl,lt h.k,Dd.ex_row h.k(λi hi=>by rcases i12 hi with rfl|rfl|rfl|rfl|rfl|rfl|rfl|rfl|rfl|rfl|rfl|rfl<;>rfl),l2⟩
theorem Dd.ex_ctx {w w1:World} (h:Dd.ExAt w w1)(hO:Tk.Ops w):Dd.Ctx w1 #[.int .i64 13, .int .i64 0, .int .i64 0, .int .i64 0, .int .i64 0, .int .i64 0, .slice none 0 0, .slice none 0 0, .slice(some⟨w.heap.size+1+1+1,0,none⟩)3 3, .slice(some⟨w.heap.size+1+1+1+1,0,none⟩)5 5, .slice none 0 0, .slice none 0 0]true Dd.exL Dd.exK:=by
 have:=Dd.ctx 2 2 Dd.exT⟨.slice none 0 0, .slice none 0 0, .slice(some⟨w.heap.size+1+1+1,0,none⟩)3 3, .slice(some⟨w.heap.size+1+1+1+1,0,none⟩)5 5, .slice none 0 0, .slice none 0 0⟩w1(Dd.ex_lies h)(by have:=(Array.getElem?_eq_some_iff.1 h.a).1;omega)(by decide)Dd.ex_fit(hO.below h.bel hO.lt);rw [Dd.ex_web]at this;exact this
theorem Tryz.skips_any(w:World)(hO:Tk.Ops w):Calls Tryz.prog 10 #[]w λe w'=>e= .returned(.bool true)/\Below w.heap.size w w':=by
 have hat:=Dd.ex_at w;obtain⟨w1,hw1⟩: ∃z,((((((w.alloc(.cells #[.int .i64 2, .int .i64 0, .slice none 0 0, .int .i64 2, .int .i64 0, .slice none 0 0]24)).alloc(.cells #[.int .i64 10, .int .i64 0, .slice(some⟨w.heap.size,0,none⟩)2 2]24)).alloc(.cells #[.int .i64 10, .int .i64 0, .slice(some⟨w.heap.size,0,none⟩)2 2, .int .i64 0, .int .i64 0, .slice none 0 0]24)).alloc(.cells #[.int .i64 12, .int .i64 0, .int .i64 3, .int .i64 1, .int .i64 0, .int .i64 0, .slice none 0 0, .slice(some⟨w.heap.size+1+1,0,none⟩)2 2, .slice none 0 0, .slice none 0 0, .slice none 0 0, .slice none 0 0, .int .i64 5, .int .i64 1, .int .i64 0, .int .i64 0, .int .i64 0, .int .i64 0, .slice none 0 0, .slice none 0 0, .slice none 0 0, .slice none 0 0, .slice none 0 0, .slice none 0 0, .int .i64 12, .int .i64 2, .int .i64 4, .int .i64 0, .int .i64 0, .int .i64 0, .slice none 0 0, .slice none 0 0, .slice none 0 0, .slice none 0 0, .slice none 0 0, .slice none 0 0]32)).alloc(.cells #[.int .i64(-1), .int .i64 0, .int .i64 0, .int .i64 1, .int .i64 0, .int .i64 2, .int .i64 1, .int .i64 2, .int .i64 2, .int .i64(-1)]80)).alloc(.cells #[.int .i64 13, .int .i64 0, .int .i64 0, .int .i64 0, .int .i64 0, .int .i64 0, .slice none 0 0, .slice none 0 0, .slice(some⟨w.heap.size+1+1+1,0,none⟩)3 3, .slice(some⟨w.heap.size+1+1+1+1,0,none⟩)5 5, .slice none 0 0, .slice none 0 0]32))=z:=⟨_,rfl⟩;rw [hw1]at hat;have cx:=Dd.ex_ctx hat hO
 have H1:Hid _:=hw1;have CX:Hid _:=cx;obtain⟨q,hq⟩: ∃q,w.heap.size+1+1+1+1+1=q:=⟨_,rfl⟩;have HQ:Hid(w.heap.size+1+1+1+1+1=q):=hq;have NR0:=hat.r;rw [hq]at NR0;obtain⟨xs,hxs⟩: ∃xs,(#[.int .i64 13, .int .i64 0, .int .i64 0, .int .i64 0, .int .i64 0, .int .i64 0, .slice none 0 0, .slice none 0 0, .slice(some⟨w.heap.size+1+1+1,0,none⟩)3 3, .slice(some⟨w.heap.size+1+1+1+1,0,none⟩)5 5, .slice none 0 0, .slice none 0 0]:Array Value)=xs:=⟨_,rfl⟩;have HXS:Hid((#[.int .i64 13, .int .i64 0, .int .i64 0, .int .i64 0, .int .i64 0, .int .i64 0, .slice none 0 0, .slice none 0 0, .slice(some⟨w.heap.size+1+1+1,0,none⟩)3 3, .slice(some⟨w.heap.size+1+1+1+1,0,none⟩)5 5, .slice none 0 0, .slice none 0 0]:Array Value)=xs):=hxs;rw [hxs]at NR0 CX;have HB:Hid(Below w.heap.size w w1/\w1.heap[q]? =some(.cells xs 32(0,0))):=⟨hat.bel,NR0⟩;have lx:xs.size=12:=by rw [<-hxs];rfl
 have ha:=Tryz.underlying32;have hu:=Tryz.underlying41;have ia:(Tryz.prog.info? 32).map(·.size)=some xs.size:=by rw [lx];exact Dd.info_act
 have HAX:Hid(∀W,Below w1.heap.size w1 W->W.heap[q]? =some(.cells xs 32(0,0))/\Below w.heap.size w W/\W.rangeAt q 0 xs.toList):=λW hb=>by
  have h:=(hb.block q(Array.getElem?_eq_some_iff.1 HB.out.2).1).trans HB.out.2;refine⟨h,HB.out.1.trans(hb.mono HB.out.1.size),λj v hv=> ?_⟩;rw [Nat.zero_add];simp only [World.cell?,h];simpa using hv
 have ial:(Tryz.prog.info? 32).map(·.size)=some xs.toList.length:=by rw [ia];simp
 obtain⟨S0,hS0⟩: ∃z,Dd.exS=z:=⟨_,rfl⟩;obtain⟨S1,hS1⟩: ∃z,Dd.exS1=z:=⟨_,rfl⟩;have l0:S0.length=104:=by rw [<-hS0];exact Dd.exS_length
 have l1:S1.length=104:=by rw [<-hS1];exact Dd.exS1_length
 have C1:Hid(∀W,Below w1.heap.size w1 W->Calls Tryz.prog 11 #[.agg xs]W λe w'=>e= .returned(.tuple #[.agg(Dd.row S0), .int .i64 0])/\Below W.heap.size W w'):=λW hb=>by
  have h:=CX.out.start W hb;rw [Dd.ex_start,hS0]at h;exact h
 have C2:Hid(∀W,Below w1.heap.size w1 W->Calls Tryz.prog 23 #[.agg xs, .agg(Dd.row S0), .int .i64 0, .int .i64 1]W λe w'=>e= .returned(.tuple #[.agg(Dd.row S1), .int .i64 0])/\Below W.heap.size W w'):=λW hb=>by
  have h:=CX.out.choose W S0 0 1 hb l0(by omega)(by omega);rw [<-hS0,Dd.ex_choose,hS1]at h;rw [<-hS0];exact h
 have C3:Hid(∀W,Below w1.heap.size w1 W->Calls Tryz.prog 14 #[.agg xs, .agg(Dd.row S0)]W λe w'=> ∃a c,e= .returned(.slice a 1 c)/\Below W.heap.size W w'):=λW hb=>by
  have h:=CX.out.running W S0 hb l0;refine h.mono λe w' hh=> ?_;obtain⟨v,hv,how,hbb⟩:=hh;rw [<-hS0,Dd.ex_run]at how;obtain⟨a,c,rfl⟩:=Rk.own_shape how;exact⟨a,c,hv,hbb⟩
 have C4:Hid(∀W,Below w1.heap.size w1 W->Calls Tryz.prog 21 #[.agg xs, .agg(Dd.row S1)]W λe w'=>e= .returned(.bool true)/\Below W.heap.size W w'):=λW hb=>by
  have h:=CX.out.over W S1 hb l1;rw [<-hS1,Dd.ex_over1]at h;rw [<-hS1];exact h
 have C5:Hid(∀W,Below w1.heap.size w1 W->Calls Tryz.prog 21 #[.agg xs, .agg(Dd.row S0)]W λe w'=>e= .returned(.bool false)/\Below W.heap.size W w'):=λW hb=>by
  have h:=CX.out.over W S0 hb l0;rw [<-hS0,Dd.ex_over0]at h;rw [<-hS0];exact h
 have HS:Hid(S1.getD(40+1)0=3):=by show _=_;rw [<-hS1];exact Dd.ex_skip
 have i0:=Dd.info_row l0;have i1:=Dd.info_row l1;have o0:=Dd.row_one S0;have o1:=Dd.row_one S1;have z0:(Tryz.zeroCells41).size=(Dd.row S0).size:=by rw [Dd.zero_row,Dd.row_size,Dd.row_size,l0,Dd.zeros_length]
 have z1:(Tryz.zeroCells41).size=(Dd.row S1).size:=by rw [Dd.zero_row,Dd.row_size,Dd.row_size,l1,Dd.zeros_length]
 have j0:=Dd.ints_len l0;have j1:=Dd.ints_len l1;have HL:Hid(S0.length=104/\S1.length=104):=⟨l0,l1⟩;clear hat hw1 cx hq hxs hS0 hS1 l0 l1 lx CX hO HB
 go_enter Tryz.func10,Tryz.ntmps10
 go_upto_region 3 with fail
 rw [H1.out,HQ.out];clear H1
 go_wp2_with(refine wpList_load_row rfl 32 _ rfl _ rfl 32 _(0,0)_ NR0 ha rfl ia ?_)
 refine Calls.mono(C1.out _(Below.refl _ _)) ?_;rintro e W2⟨rfl,hb2⟩;have NZ2:(W2.alloc(.cells Tryz.zeroCells41 41)).heap[W2.heap.size]? =some(.cells Tryz.zeroCells41 41(0,0)):=heap_alloc_new W2 _;obtain⟨W3,hW3⟩: ∃z,(W2.alloc(.cells Tryz.zeroCells41 41)).setRow W2.heap.size(Dd.row S0)=z:=⟨_,rfl⟩;have A3:Dd.At W3 W2.heap.size S0:=by rw [<-hW3];exact⟨setRow_heap _ _ _ _ _ _ NZ2,HL.out.1⟩
 have B3:Below W2.heap.size W2 W3:=by rw [<-hW3];exact Tk.below_row((Below.refl _ W2).alloc(Nat.le_refl _)_)(Nat.le_refl _)_
 have HB3:Hid(Below w1.heap.size w1 W3):=hb2.trans(B3.mono hb2.size);have HW3:Hid _:=hW3;obtain⟨p,hp⟩: ∃p,W2.heap.size=p:=⟨_,rfl⟩;rw [hp]at A3;have HP:Hid(W2.heap.size=p):=hp;have HA3:Hid(Dd.At W3 p S0):=A3;clear NR0 hb2 hW3 hp A3 B3
 go_upto_region 4 with(refine wpList_store_row rfl 41 _ _ rfl W2.heap.size(Dd.row S0)rfl rfl 41 _ NZ2 i0 z0 o0 ?_)
 rw [HW3.out,HP.out];clear HW3 NZ2 HP;have NA3:=(HAX.out W3 HB3.out).1;have NS3:=HA3.out.h
 go_wp2_with(first
  |refine wpList_load_row rfl 32 _ rfl _ rfl 32 _(0,0)_ NA3 ha rfl ia ?_
  |refine wpList_load_row rfl 41 _ rfl _ rfl 41(Dd.row S0)(0,0)_ NS3 hu rfl i0 ?_)
 refine Calls.mono(C2.out _ HB3.out) ?_;rintro e W4⟨rfl,hb4⟩;have NZ4:(W4.alloc(.cells Tryz.zeroCells41 41)).heap[W4.heap.size]? =some(.cells Tryz.zeroCells41 41(0,0)):=heap_alloc_new W4 _;obtain⟨W5,hW5⟩: ∃z,(W4.alloc(.cells Tryz.zeroCells41 41)).setRow W4.heap.size(Dd.row S1)=z:=⟨_,rfl⟩;have A5:Dd.At W5 W4.heap.size S1:=by rw [<-hW5];exact⟨setRow_heap _ _ _ _ _ _ NZ4,HL.out.2⟩
 have B5:Below W4.heap.size W4 W5:=by rw [<-hW5];exact Tk.below_row((Below.refl _ W4).alloc(Nat.le_refl _)_)(Nat.le_refl _)_
 have B45:Below W3.heap.size W3 W5:=hb4.trans(B5.mono hb4.size);have HB5:Hid(Below w1.heap.size w1 W5/\Dd.At W5 p S0):=⟨HB3.out.trans(B45.mono HB3.out.size),HA3.out.below B45 HA3.out.lt⟩;have HW5:Hid _:=hW5;obtain⟨p5,hp5⟩: ∃p,W4.heap.size=p:=⟨_,rfl⟩;rw [hp5]at A5;have HP5:Hid(W4.heap.size=p5):=hp5;have HA5:Hid(Dd.At W5 p5 S1):=A5;clear NA3 NS3 hb4 hW5 hp5 A5 B5 B45
 go_upto_region 5 with(refine wpList_store_row rfl 41 _ _ rfl W4.heap.size(Dd.row S1)rfl rfl 41 _ NZ4 i1 z1 o1 ?_)
 rw [HW5.out,HP5.out];clear HW5 NZ4 HP5;have NA5:=(HAX.out W5 HB5.out.1).1;have NS5:=HB5.out.2.h
 go_wp2_with(first
  |refine wpList_load_row rfl 32 _ rfl _ rfl 32 _(0,0)_ NA5 ha rfl ia ?_
  |refine wpList_load_row rfl 41 _ rfl _ rfl 41(Dd.row S0)(0,0)_ NS5 hu rfl i0 ?_)
 refine Calls.mono(C3.out _ HB5.out.1) ?_;rintro e W6⟨a6,c6,rfl,hb6⟩;have HB6:Hid(Below w1.heap.size w1 W6/\Dd.At W6 p S0/\Dd.At W6 p5 S1):=⟨HB5.out.1.trans(hb6.mono HB5.out.1.size),HB5.out.2.below hb6 HB5.out.2.lt,HA5.out.below hb6 HA5.out.lt⟩;clear NA5 NS5 hb6;have k1:=HB6.out.2.2.cell(40+1)(by omega);rw [HS.out]at k1;have RA6:=(HAX.out W6 HB6.out.1).2.2;have RS6:=Dd.range_st HB6.out.2.2
 go_wp2_with(first
  |refine Dd.load_want(by rfl)32 _ rfl q 0 rfl xs.toList _ RA6 ha rfl ial ?_
  |refine Dd.load_want(by rfl)41 _ rfl p5 0 rfl(Dd.ints S1)_ RS6 hu rfl j1 ?_
  |fail)
 refine Calls.mono(C4.out W6 HB6.out.1) ?_;rintro e W7⟨rfl,hb7⟩;have HB7:Hid(Below w1.heap.size w1 W7/\Dd.At W7 p S0):=⟨HB6.out.1.trans(hb7.mono HB6.out.1.size),HB6.out.2.1.below hb7 HB6.out.2.1.lt⟩;clear k1 RA6 RS6 hb7;have RA7:=(HAX.out W7 HB7.out.1).2.2;have RS7:=Dd.range_st HB7.out.2
 go_wp2_with(first
  |refine Dd.load_want(by rfl)32 _ rfl q 0 rfl xs.toList _ RA7 ha rfl ial ?_
  |refine Dd.load_want(by rfl)41 _ rfl p 0 rfl(Dd.ints S0)_ RS7 hu rfl j0 ?_
  |fail)
 refine Calls.mono(C5.out W7 HB7.out.1) ?_;rintro e W8⟨rfl,hb8⟩;have HB8:Hid(Below w.heap.size w W8):=(HAX.out W8(HB7.out.1.trans(hb8.mono HB7.out.1.size))).2.1;clear RA7 RS7 hb8;go_wp2;go_ret;exact⟨rfl,HB8.out⟩
end Go.Proofs
