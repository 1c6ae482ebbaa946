import Derived.Test.YtenaelpdnccgnaaGreatDoorQNsSame
import Derived.Test.YtenaelpdnccgnaaGreatDoorQAllTRefChk
import Derived.Test.YtenaelpdnccgnaaGreatDoorQRqThings
set_option maxRecDepth 100000
set_option maxHeartbeats 32000000
namespace Go.Proofs
open Go
theorem Nt.put_some (ts:List Value)(ds:List Deferred)(d:Tmp)(v:Value):Act.put ⟨ts.toArray,ds⟩ (some d) v=⟨(ts.set d v).toArray,ds⟩:=by
 simp[Act.put]
theorem Nt.takeS {P:Program}{md:Region.Mode}{ops:Array Oper}{Q:Exit->Act->World->Prop}{S:World->Prop}(i:Nat){oi:Oper}{v:Value}{fuel:Nat}{listed:Array Bool}{ts:List Value}{ds:List Deferred}{w:World}(d:Tmp)(hi:ops[i]? =some oi)(hd:oi.dst=some d)
  (hs:Region.noSelect ops=true) (hf:Region.free md ops listed i=true) (hr:(Region.ready md ops listed).contains i=true)
  (hQ:∀c a w,Q (.panic c) (a.put oi.dst v) w->Q (.panic c) a w) (hy:YieldsIf P ops S oi v ⟨ts.toArray,ds⟩) (hS:S w)
  (h:wpAnyH P md ops Q S fuel (listed.setIfInBounds i true) ⟨(ts.set d v).toArray,ds⟩ w):wpAnyH P md ops Q S (fuel+1) listed ⟨ts.toArray,ds⟩ w:=
 wpAnyH_take hi hs hf hr hQ hy hS (by rw[hd,Nt.put_some];exact h)
end Go.Proofs
namespace Go.Proofs
open Go.RowKit Go.Shelf
theorem Tryz.nestSame_any (d d' B:Nat)(S T:Tm)(u v:Value)(w:World)(hS:Tm.Lies w B d u S)(hT:Tm.Lies w B d' v T)(hB:0<B)(hBs:B<=w.heap.size)(hsz:S.size<=2147483647)(hdp:S.depth<=1000):
  Calls Tryz.prog 90 #[.agg #[.func (.func 116) #[] #[],.int .i64 1000,.int .i64 2147483647],.agg #[.int .i64 S.op,.int .i64 S.num,u],.agg #[.int .i64 T.op,.int .i64 T.num,v],.func (.func 92) #[] #[]] w λe w'=>
   (∃r,e=.returned (.bool r)/\(r=true↔S=T))/\Below w.heap.size w w':=by
 obtain⟨a,ca,rfl⟩:=hS.shape;obtain⟨b,cb,rfl⟩:=hT.shape;obtain⟨x0,hx0⟩:=pE (S.op);obtain⟨x1,hx1⟩:=pE (S.num);obtain⟨y0,hy0⟩:=pE (T.op);obtain⟨y1,hy1⟩:=pE (T.num);obtain⟨n,hn⟩:=pE (S.ks.length);obtain⟨m,hm⟩:=pE (T.ks.length);rw[hx0,hx1,hy0,hy1,hn,hm];rw[hn]at hS;rw[hm]at hT;obtain⟨w1,hw1⟩:=pE (((w.alloc (.cells #[.func (.func 116) #[] #[],.int .i64 1000,.int .i64 2147483647] 137)).alloc (.cells #[.int .i64 x0,.int .i64 x1,.slice a n ca] 24)).alloc (.cells #[.int .i64 y0,.int .i64 y1,.slice b m cb] 24));have A1:Below w.heap.size w w1:=by rw[<-hw1];exact(((Below.refl _ w).alloc (Nat.le_refl _) _).alloc (by simp) _).alloc (by simp;omega) _
 have hWy:Tk.Wy w.heap.size 1000 2147483647 w1:=by
  rw[<-hw1];exact Tk.Wy.keep (Tk.Wy.keep (heap_alloc_new w _) (Below.heap_alloc _ _ _ (by simp))) (Below.heap_alloc _ _ _ (by simp;omega))
 have hcall:=Tryz.same_any 1000 w.heap.size B hB hBs d d' 1000 S T (.slice a n ca) (.slice b m cb) 2147483647 w1 (hS.below (A1.mono hBs)) (hT.below (A1.mono hBs)) (Nat.le_trans hBs A1.size) hWy hsz (Nat.le_refl _) hdp (Nat.le_refl _);rw[hx0,hx1,hy0,hy1]at hcall;have HC:Hid _:=hcall;have HA:Hid (Below w.heap.size w w1):=A1;have H1:Hid (((w.alloc (.cells #[.func (.func 116) #[] #[],.int .i64 1000,.int .i64 2147483647] 137)).alloc (.cells #[.int .i64 x0,.int .i64 x1,.slice a n ca] 24)).alloc (.cells #[.int .i64 y0,.int .i64 y1,.slice b m cb] 24)=w1):=hw1;clear hcall A1 hS hT hx0 hx1 hy0 hy1 hn hm hw1 hWy
 go_enter Tryz.func90,Tryz.ntmps90
 go_wp2_with fail
 rw[H1.out];refine Calls.mono HC.out ?_;rintro e W1 ⟨r,rfl,hr,hb,-⟩;have X:Hid ((r=true↔S=T)/\Below w.heap.size w W1):=⟨hr,HA.out.trans (hb.below HA.out.size (λk hk=>by omega))⟩;clear hb hr;go_wp2;go_ret;exact⟨⟨r,rfl,X.out.1⟩,X.out.2⟩
theorem Tryz.termSame_any (d d':Nat)(S T:Tm)(u v:Value)(w:World)(hS:Tm.Lies w w.heap.size d u S)(hT:Tm.Lies w w.heap.size d' v T)(h0:0<w.heap.size)(hsz:S.size<=2147483647)(hdp:S.depth<=1000):
  Calls Tryz.prog 61 #[.agg #[.int .i64 S.op,.int .i64 S.num,u],.agg #[.int .i64 T.op,.int .i64 T.num,v]] w λe w'=>
   (∃r,e=.returned (.bool r)/\(r=true↔S=T))/\Below w.heap.size w w':=by
 obtain⟨a,ca,rfl⟩:=hS.shape;obtain⟨b,cb,rfl⟩:=hT.shape;obtain⟨x0,hx0⟩:=pE (S.op);obtain⟨x1,hx1⟩:=pE (S.num);obtain⟨y0,hy0⟩:=pE (T.op);obtain⟨y1,hy1⟩:=pE (T.num);obtain⟨n,hn⟩:=pE (S.ks.length);obtain⟨m,hm⟩:=pE (T.ks.length);rw[hx0,hx1,hy0,hy1,hn,hm];rw[hn]at hS;rw[hm]at hT;obtain⟨w1,hw1⟩:=pE ((w.alloc (.cells #[.int .i64 x0,.int .i64 x1,.slice a n ca] 24)).alloc (.cells #[.int .i64 y0,.int .i64 y1,.slice b m cb] 24));have hs1:w1.heap.size=w.heap.size+2:=by rw[<-hw1];simp
 have A1:Below w.heap.size w w1:=by rw[<-hw1];exact((Below.refl _ w).alloc (Nat.le_refl _) _).alloc (by simp) _
 have C0:w1.heap[w.heap.size]? =some (.cells #[.int .i64 x0,.int .i64 x1,.slice a n ca] 24 (0,0)):=by rw[<-hw1,Below.heap_alloc _ _ _ (by simp)];exact heap_alloc_new w _
 have C1:w1.heap[w.heap.size+1]? =some (.cells #[.int .i64 y0,.int .i64 y1,.slice b m cb] 24 (0,0)):=by
  rw[<-hw1];have:=heap_alloc_new (w.alloc (.cells #[.int .i64 x0,.int .i64 x1,.slice a n ca] 24)) (.cells #[.int .i64 y0,.int .i64 y1,.slice b m cb] 24);simpa using this
 have CF:Hid (∀W,Below w1.heap.size w1 W->W.cell? ⟨w.heap.size,0,none⟩=some (.int .i64 x0)/\W.cell? ⟨w.heap.size,1,none⟩=some (.int .i64 x1)/\W.cell? ⟨w.heap.size,2,none⟩=some (.slice a n ca)/\W.cell? ⟨w.heap.size+1,0,none⟩=some (.int .i64 y0)/\W.cell? ⟨w.heap.size+1,1,none⟩=some (.int .i64 y1)/\W.cell? ⟨w.heap.size+1,2,none⟩=some (.slice b m cb)):=λW hb=>by
  have e1:=(hb.block w.heap.size (by omega)).trans C0;have e2:=(hb.block (w.heap.size+1) (by omega)).trans C1;exact⟨by simp[World.cell?,e1],by simp[World.cell?,e1],by simp[World.cell?,e1],by simp[World.cell?,e2],by simp[World.cell?,e2],by simp[World.cell?,e2]⟩
 have CW:Hid (∀W,Below w1.heap.size w1 W->Calls Tryz.prog 91 #[.int .i64 1000] W λe w'=>e=.returned (.agg #[.func (.func 116) #[] #[],.int .i64 1000,.int .i64 2147483647])/\Hid (Below w1.heap.size w1 w')):=λW hb=>
  (Tryz.way_any 1000 W).mono λ_ w' h=>⟨h.1,hb.trans (h.2.mono hb.size)⟩
 have CT:Hid (∀W,Below w1.heap.size w1 W->Calls Tryz.prog 90 #[.agg #[.func (.func 116) #[] #[],.int .i64 1000,.int .i64 2147483647],.agg #[.int .i64 x0,.int .i64 x1,.slice a n ca],.agg #[.int .i64 y0,.int .i64 y1,.slice b m cb],.func (.func 92) #[] #[]] W λe w'=>
   ∃r,e=.returned (.bool r)/\Hid ((r=true↔S=T)/\Below w1.heap.size w1 w')):=λW hb=>by
  have h:=Tryz.nestSame_any d d' w.heap.size S T (.slice a n ca) (.slice b m cb) W ((hS.below A1).below (hb.mono (by omega))) ((hT.below A1).below (hb.mono (by omega))) h0 (by have:=hb.size;omega) hsz hdp;rw[hx0,hx1,hy0,hy1]at h
  exact h.mono λ_ w' h=>by
   obtain⟨⟨r,he,hr⟩,hb'⟩:=h;exact⟨r,he,hr,hb.trans (hb'.mono hb.size)⟩
 have H1:Hid ((w.alloc (.cells #[.int .i64 x0,.int .i64 x1,.slice a n ca] 24)).alloc (.cells #[.int .i64 y0,.int .i64 y1,.slice b m cb] 24)=w1):=hw1;have HA:Hid (Below w.heap.size w w1/\w.heap.size<=w1.heap.size):=⟨A1,by omega⟩;have BR:Hid (Below w1.heap.size w1 w1):=Below.refl _ _;clear A1 hS hT hx0 hx1 hy0 hy1 hn hm hw1 C0 C1 hs1
 go_enter Tryz.func61,Tryz.ntmps61
 go_upto_region 1 with fail
 rw[H1.out]
 go_region_held3 (λW=>W.cell? ⟨w.heap.size,0,none⟩=some (.int .i64 x0)/\W.cell? ⟨w.heap.size,1,none⟩=some (.int .i64 x1)/\W.cell? ⟨w.heap.size,2,none⟩=some (.slice a n ca)/\W.cell? ⟨w.heap.size+1,0,none⟩=some (.int .i64 y0)/\W.cell? ⟨w.heap.size+1,1,none⟩=some (.int .i64 y1)/\W.cell? ⟨w.heap.size+1,2,none⟩=some (.slice b m cb))
  (first|exact CF.out _ H4.out.2|exact CF.out _ B3.out|exact CF.out _ BR.out.drew|exact CF.out _ BR.out)
  (first
  |(go_simp;go_at_call 91;refine Calls.mono (CW.out _ ?_) ?_;(first|exact BR.out|exact BR.out.drew|exact Tk.below_drewN BR.out _);rintro e W3 ⟨rfl,B3⟩)
  |(go_simp;go_at_call 90;refine Calls.mono (CT.out _ ?_) ?_;(first|exact B3.out|exact B3.out.drew|exact Tk.below_drewN B3.out _);rintro e W4 ⟨r,rfl,H4⟩))
 all_goals
  clear CW CT BR;go_simp;go_wp2;go_ret;exact⟨⟨r,rfl,H4.out.1⟩,HA.out.1.trans (H4.out.2.mono HA.out.2)⟩
theorem Tryz.aisOf_any (k:Int)(d:Nat)(T:Tm)(v:Value)(w:World)(hT:Tm.Lies w w.heap.size d v T)(hO:Tk.Ops w)(hsz:T.size<=2147483647):
  Calls Tryz.prog 46 #[.int .i64 k,.agg #[.int .i64 T.op,.int .i64 T.num,v]] w λe w'=>e=.returned (.bool (Nt.ofB T k))/\Below w.heap.size w w':=by
 obtain⟨a,cap,rfl⟩:=hT.shape;have A0:Below w.heap.size w (w.alloc (.cells #[.int .i64 T.op,.int .i64 T.num,.slice a T.ks.length cap] 24)):=(Below.refl _ w).alloc (Nat.le_refl _) _;have hc:=Tryz.check_any d T (.slice a T.ks.length cap) _ ((hT.below A0).wider A0.size) (hO.below A0 hO.lt) hsz;obtain⟨o,ho⟩:=pE (T.op);obtain⟨m,hm⟩:=pE (T.num);obtain⟨n,hn⟩:=pE (T.ks.length);obtain⟨b,hb⟩:=pE (Nt.ofB T k);obtain⟨q,hq⟩:=pE (T.checkR);rw[ho,hm,hn,hq]at hc;rw[ho,hm,hn]at A0;rw[hb,ho,hm,hn];obtain⟨q0,q1⟩:=q;have HC:Hid _:=hc;have HA:Hid _:=A0;have HB:Hid ((decide (q1=0)&&decide (q0=k))=b):=by show _=_;rw[<-hb,Nt.ofB,hq]
 clear hc A0 hT hO hsz ho hm hn hb hq
 by_cases h0:q1=0<;>by_cases h1:q0=k
 all_goals
  have e0:(q1==0)=decide (q1=0):=rfl;have e1:(q0==k)=decide (q0=k):=rfl;simp only[h0,h1,decide_true,decide_false]at e0 e1 HB
  try subst h0
  try subst h1
  go_enter Tryz.func46,Tryz.ntmps46
  go_wp2_with fail
  refine Calls.mono HC.out ?_;rintro e W1 ⟨rfl,hb1⟩;have B1:Hid (Below w.heap.size w W1):=HA.out.trans (hb1.mono HA.out.size);clear hb1 HC;go_wp2;go_ret;exact⟨Tk.ret_bool (by rw[<-HB.out];first|rfl|simp),B1.out⟩
theorem Tryz.r16of_any (k:Int)(d:Nat)(T:Tm)(v:Value)(w:World)(hT:Tm.Lies w w.heap.size d v T)(hsz:T.size<=2147483647):
  Calls Tryz.prog 76 #[.agg #[.int .i64 T.op,.int .i64 T.num,v],.int .i64 k] w λe w'=>e=.returned (.bool (Nt.ofB T k))/\Below w.heap.size w w':=by
 obtain⟨a,cap,rfl⟩:=hT.shape;have A0:Below w.heap.size w (w.alloc (.cells #[.int .i64 T.op,.int .i64 T.num,.slice a T.ks.length cap] 24)):=(Below.refl _ w).alloc (Nat.le_refl _) _;have hc:=Tryz.refCheck_any d T (.slice a T.ks.length cap) _ ((hT.below A0).wider A0.size) hsz;obtain⟨o,ho⟩:=pE (T.op);obtain⟨m,hm⟩:=pE (T.num);obtain⟨n,hn⟩:=pE (T.ks.length);obtain⟨b,hb⟩:=pE (Nt.ofB T k);obtain⟨q,hq⟩:=pE (T.checkR);rw[ho,hm,hn,hq]at hc;rw[ho,hm,hn]at A0;rw[hb,ho,hm,hn];obtain⟨q0,q1⟩:=q;have HC:Hid _:=hc;have HA:Hid _:=A0;have HB:Hid ((decide (q1=0)&&decide (q0=k))=b):=by show _=_;rw[<-hb,Nt.ofB,hq]
 clear hc A0 hT hsz ho hm hn hb hq
 by_cases h0:q1=0<;>by_cases h1:q0=k
 all_goals
  have e0:(q1==0)=decide (q1=0):=rfl;have e1:(q0==k)=decide (q0=k):=rfl;simp only[h0,h1,decide_true,decide_false]at e0 e1 HB
  try subst h0
  try subst h1
  go_enter Tryz.func76,Tryz.ntmps76
  go_wp2_with fail
  refine Calls.mono HC.out ?_;rintro e W1 ⟨rfl,hb1⟩;have B1:Hid (Below w.heap.size w W1):=HA.out.trans (hb1.mono HA.out.size);clear hb1 HC;go_wp2;go_ret;exact⟨Tk.ret_bool (by rw[<-HB.out];first|rfl|simp),B1.out⟩
theorem Nt.zero_iff (T:Tm):T=.mk 0 0 []↔Nt.zeroB T=true:=by
 cases T
 simp only[Nt.zeroB,Tm.op,Tm.num,Tm.ks,Tm.mk.injEq,Bool.and_eq_true,decide_eq_true_eq,List.length_eq_zero_iff,and_assoc];exact⟨fun⟨h1,h2,h3⟩=>⟨decide_eq_true h1,decide_eq_true h2,h3⟩,fun⟨h1,h2,h3⟩=>⟨of_decide_eq_true h1,of_decide_eq_true h2,h3⟩⟩
theorem Tm.lies_zero (w:World)(B:Nat):Tm.Lies w B 1 (.slice none 0 0) (.mk 0 0 []):=⟨none,0,rfl,.inl rfl⟩
def Ac.choiceAt (other:Int)(i:Nat)(c:Tm):Bool:=if(i:Int)=other then Nt.zeroB c else Nt.ofB c 2
def Ac.choiceB (cs:List Tm)(other:Int):Bool:=(List.range cs.length).all λi=>((cs[i]?.map (Ac.choiceAt other i)).getD true)
theorem Ac.choice_no {cs:List Tm}{other:Int}{j:Nat}(h:j<cs.length)(e:Ac.choiceAt other j cs[j]=false):Ac.choiceB cs other=false:=by
 unfold Ac.choiceB;rw[List.all_eq_false];exact⟨j,List.mem_range.2 h,by rw[List.getElem?_eq_getElem h];simp[e]⟩
theorem Ac.choice_yes {cs:List Tm}{other:Int}(h:∀j (h:j<cs.length),Ac.choiceAt other j cs[j]=true):Ac.choiceB cs other=true:=by
 unfold Ac.choiceB;rw[List.all_eq_true];intro j hj;have hj':=List.mem_range.1 hj;rw[List.getElem?_eq_getElem hj'];simpa using h j hj'
theorem Tryz.isChoice_any (cs:List Tm)(a:Option Addr)(cap:Nat)(other:Int)(e:Nat)(w:World)(hT:Ac.Tms w w.heap.size e a cs)(hO:Tk.Ops w)(hsz:∀x∈cs,x.size<=2147483647/\x.depth<=1000)(hn:cs.length<=2147483647):
  Calls Tryz.prog 47 #[.slice a cs.length cap,.int .i64 other] w λe w'=>e=.returned (.bool (Ac.choiceB cs other))/\Below w.heap.size w w':=by
 obtain⟨n,hln⟩:=pE (cs.length);obtain⟨R,hR⟩:=pE (Ac.choiceB cs other);have H:Hid (Ac.Tms w w.heap.size e a cs/\Tk.Ops w/\(∀x∈cs,x.size<=2147483647/\x.depth<=1000)/\cs.length=n/\Ac.choiceB cs other=R):=⟨hT,hO,hsz,hln,hR⟩;rw[hln]at hn;rw[hln,hR];clear hT hO hsz hln hR
 go_enter Tryz.func47,Tryz.ntmps47
 go_wp2
 go_loopg [9] n (λgk i wr=>∃j:Nat,gk+j=n/\i=.int .i64 j/\Hid ((∀i (h:i<cs.length),i<j->Ac.choiceAt other i cs[i]=true)/\Below w.heap.size w wr))
 case atStart=>exact⟨0,by omega,rfl,λi _ h=>absurd h (by omega),Below.refl _ w⟩
 case round=>
  obtain⟨j,hj,rfl,HJ⟩:=hrel
  by_cases hjn:j<n
  rotate_left
  ·have hd:decide ((j:Int)<n)=false:=decide_eq_false (by omega)
   go_wp2;go_ret;refine⟨Tk.ret_bool ?_,HJ.out.2⟩;rw[<-H.out.2.2.2.2];exact(Ac.choice_yes λi h=>HJ.out.1 i h (by have:=H.out.2.2.2.1;omega)).symm
  have hd:decide ((j:Int)<n)=true:=decide_eq_true (by omega);have hjk:j<cs.length:=by rw[H.out.2.2.2.1];exact hjn
  obtain⟨g,off,u,rfl,hg,q0,q1,q2,hlu⟩:=H.out.1 j hjk;obtain⟨x,hx⟩:=pE (cs[j]);have hxs:=H.out.2.2.1 _ (List.getElem_mem hjk);rw[hx]at q0 q1 hlu hxs;rw[<-HJ.out.2.cell (p:=⟨g,off+j*3,none⟩) hg]at q0;rw[<-HJ.out.2.cell (p:=⟨g,off+j*3+1,none⟩) hg]at q1;rw[<-HJ.out.2.cell (p:=⟨g,off+j*3+2,none⟩) hg]at q2;obtain⟨ua,uc,rfl⟩:=hlu.shape;obtain⟨un,hun⟩:=pE (x.ks.length);obtain⟨y0,hy0⟩:=pE (x.op);obtain⟨y1,hy1⟩:=pE (x.num);rw[hun]at q2 hlu;rw[hy0]at q0;rw[hy1]at q1;have BA:Below wr.heap.size wr (wr.alloc (.cells #[.int .i64 y0,.int .i64 y1,.slice ua un uc] 24)):=(Below.refl _ wr).alloc (Nat.le_refl _) _;obtain⟨W1,hW1⟩:=pE (wr.alloc (.cells #[.int .i64 y0,.int .i64 y1,.slice ua un uc] 24));rw[hW1]at BA;have bw:Below w.heap.size w W1:=HJ.out.2.trans (BA.mono HJ.out.2.size);have hlW:Tm.Lies W1 W1.heap.size e (.slice ua un uc) x:=(hlu.below bw).wider bw.size;have h0:0<W1.heap.size:=by have:=bw.size;omega
  have CS:=Tryz.termSame_any e 1 x (.mk 0 0 []) (.slice ua un uc) (.slice none 0 0) W1 hlW (Tm.lies_zero _ _) h0 hxs.1 hxs.2;have CO:=Tryz.aisOf_any 2 e x (.slice ua un uc) W1 hlW (H.out.2.1.below bw H.out.2.1.lt) hxs.1;rw[hy0,hy1]at CS CO;simp only[Tm.op,Tm.num]at CS;have HS:Hid _:=CS;have HO:Hid _:=CO;have HX:Hid (cs[j]=x/\Below w.heap.size w W1):=⟨hx,bw⟩;have HW:Hid (wr.alloc (.cells #[.int .i64 y0,.int .i64 y1,.slice ua un uc] 24)=W1):=hW1;have GV:W1.heap[wr.heap.size]? =some (.cells #[.int .i64 y0,.int .i64 y1,.slice ua un uc] 24 (0,0)):=by rw[<-hW1];exact heap_alloc_new wr _
  have v0:W1.cell? ⟨wr.heap.size,0,none⟩=some (.int .i64 y0):=by simp[World.cell?,GV]
  have v1:W1.cell? ⟨wr.heap.size,1,none⟩=some (.int .i64 y1):=by simp[World.cell?,GV]
  have v2:W1.cell? ⟨wr.heap.size,2,none⟩=some (.slice ua un uc):=by simp[World.cell?,GV]
  have hj0:(0:Int)<=j:=by omega
  have hjn':(j:Int)<n:=by omega
  clear BA hW1 bw hlW h0 CS CO hlu hxs hx hun hy0 hy1 GV
  by_cases hjo:(j:Int)=other
  ·have e1:((j:Int)==other)=true:=by simpa using hjo
   have e2:((j:Int) !=other)=false:=by simpa using hjo
   have HE:Hid (Ac.choiceAt other j x=Nt.zeroB x):=by show _=_;unfold Ac.choiceAt;rw[if_pos hjo]
   clear hjo HO
   go_upto_region 4 with fail
   rw[HW.out]
   go_wp2_with fail
   refine Calls.mono HS.out ?_;rintro e W2 ⟨⟨r,rfl,hr⟩,hb2⟩;have B2:Hid (Below w.heap.size w W2):=HX.out.2.trans (hb2.mono HX.out.2.size)
   have HZ:Hid (Nt.zeroB x=r):=by
    show _=_;rw[Nt.zero_iff]at hr
    cases r with
    |true=>exact hr.1 rfl
    |false=>exact Bool.eq_false_iff.2 λh=>by have:=hr.2 h;cases this
   clear hb2 hr HS
   cases r with
   |true=>
    go_wp2;go_roundg (gk-1)
    case measure=>omega
    case rel=>
     refine⟨j+1,by omega,by go_num,λi h hi=> ?_,B2.out⟩
     rcases Nat.lt_or_ge i j with h1|h1
     ·exact HJ.out.1 i h h1
     have:i=j:=by omega
     subst this;rw[HX.out.1,HE.out,HZ.out]
   |false=>
    go_wp2;go_ret;refine⟨Tk.ret_bool ?_,B2.out⟩;rw[<-H.out.2.2.2.2];exact(Ac.choice_no hjk (by rw[HX.out.1,HE.out,HZ.out])).symm
  have e1:((j:Int)==other)=false:=by simpa using hjo
  have e2:((j:Int) !=other)=true:=by simpa using hjo
  have HE:Hid (Ac.choiceAt other j x=Nt.ofB x 2):=by show _=_;unfold Ac.choiceAt;rw[if_neg hjo]
  obtain⟨r,hr⟩:=pE (Nt.ofB x 2);rw[hr]at HE HO;clear hjo HS hr
  go_upto_region 4 with fail
  rw[HW.out]
  go_wp2_with fail
  refine Calls.mono HO.out ?_;rintro e W2 ⟨rfl,hb2⟩;have B2:Hid (Below w.heap.size w W2):=HX.out.2.trans (hb2.mono HX.out.2.size);clear hb2 HO
  cases r with
  |true=>
   go_wp2;go_roundg (gk-1)
   case measure=>omega
   case rel=>
    refine⟨j+1,by omega,by go_num,λi h hi=> ?_,B2.out⟩
    rcases Nat.lt_or_ge i j with h1|h1
    ·exact HJ.out.1 i h h1
    have:i=j:=by omega
    subst this;rw[HX.out.1,HE.out]
  |false=>
   go_wp2;go_ret;refine⟨Tk.ret_bool ?_,B2.out⟩;rw[<-H.out.2.2.2.2];exact(Ac.choice_no hjk (by rw[HX.out.1,HE.out])).symm
def Ac.joinedB (k a:Int)(n:Nat)(i o:Int):Bool:=
 if k=12 then(if a=1 then decide (i=1)&&decide (2<=o)else if a=3 then decide (i=1)&&decide (o=n)else decide (2<=i)&&decide (o=1))else decide (i=1)&&decide (o=1)
theorem Tryz.isJoined_any (k a:Int)(x1 x3 x4 x5 x6 x8 x9 x10 x11:Value)(ca:Option Addr)(n cc:Nat)(i o:Int)(w:World):Calls Tryz.prog 72 #[.agg #[.int .i64 k,x1,.int .i64 a,x3,x4,x5,x6,.slice ca n cc,x8,x9,x10,x11],.int .i64 i,.int .i64 o] w λe w'=>e=.returned (.bool (Ac.joinedB k a n i o))/\Below w.heap.size w w':=by
 have B0:Hid (Below w.heap.size w (w.alloc (.cells #[.int .i64 k,x1,.int .i64 a,x3,x4,x5,x6,.slice ca n cc,x8,x9,x10,x11] 32))):=(Below.refl _ w).alloc (Nat.le_refl _) _
 by_cases hk:k=12
 rotate_left
 ·have dk:(k !=12)=true:=by simpa using hk
  have e:Ac.joinedB k a n i o=(decide (i=1)&&decide (o=1)):=by unfold Ac.joinedB;rw[if_neg hk]
  obtain⟨p,hp⟩:=pE ((i==1));obtain⟨q,hq⟩:=pE ((o==1));have HE:Hid (Ac.joinedB k a n i o=(p&&q)):=by show _=_;rw[e,<-hp,<-hq];rfl
  obtain⟨r,hr⟩:=pE (Ac.joinedB k a n i o);rw[hr]at HE⊢;clear e hr hk
  cases p<;>cases q
  all_goals
   go_enter Tryz.func72,Tryz.ntmps72
   go_wp2;go_ret;exact⟨Tk.ret_bool (by rw[HE.out];rfl),B0.out⟩
 subst hk
 by_cases ha:a=1
 ·subst ha
  have e:Ac.joinedB 12 1 n i o=(decide (i=1)&&decide (2<=o)):=rfl;obtain⟨p,hp⟩:=pE ((i==1));obtain⟨q,hq⟩:=pE (decide (2<=o));have HE:Hid (Ac.joinedB 12 1 n i o=(p&&q)):=by show _=_;rw[e,<-hp,hq];rfl
  obtain⟨r,hr⟩:=pE (Ac.joinedB 12 1 n i o);rw[hr]at HE⊢;clear e hr
  cases p<;>cases q
  all_goals
   go_enter Tryz.func72,Tryz.ntmps72
   go_wp2;go_ret;exact⟨Tk.ret_bool (by rw[HE.out];rfl),B0.out⟩
 have da:(a==1)=false:=by simpa using ha
 by_cases ha3:a=3
 ·subst ha3
  have e:Ac.joinedB 12 3 n i o=(decide (i=1)&&decide (o=n)):=rfl;obtain⟨p,hp⟩:=pE ((i==1));obtain⟨q,hq⟩:=pE ((o==(n:Int)));have HE:Hid (Ac.joinedB 12 3 n i o=(p&&q)):=by show _=_;rw[e,<-hp,<-hq];rfl
  obtain⟨r,hr⟩:=pE (Ac.joinedB 12 3 n i o);rw[hr]at HE⊢;clear e hr ha da
  cases p<;>cases q
  all_goals
   go_enter Tryz.func72,Tryz.ntmps72
   go_wp2;go_ret;exact⟨Tk.ret_bool (by rw[HE.out];rfl),B0.out⟩
 have da3:(a==3)=false:=by simpa using ha3
 have e:Ac.joinedB 12 a n i o=(decide (2<=i)&&decide (o=1)):=by unfold Ac.joinedB;rw[if_pos rfl,if_neg ha,if_neg ha3]
 obtain⟨p,hp⟩:=pE (decide (2<=i));obtain⟨q,hq⟩:=pE ((o==1));have HE:Hid (Ac.joinedB 12 a n i o=(p&&q)):=by show _=_;rw[e,hp,<-hq];rfl
 obtain⟨r,hr⟩:=pE (Ac.joinedB 12 a n i o);rw[hr]at HE⊢;clear e hr ha ha3
 cases p<;>cases q
 all_goals
  go_enter Tryz.func72,Tryz.ntmps72
  go_wp2;go_ret;exact⟨Tk.ret_bool (by rw[HE.out];rfl),B0.out⟩
theorem Tryz.atake_any (q o r:Nat)(x c:Int)(b:Bool)(w:World)(hx:w.cell? ⟨q,o,none⟩=some (.int .i64 x))(hxf:w.frozen? ⟨q,o,none⟩=false)(hb:w.cell? ⟨r,0,none⟩=some (.bool b))(hbf:w.frozen? ⟨r,0,none⟩=false)(hqr:q≠r):
  Calls Tryz.prog 44 #[.pointer (some ⟨q,o,none⟩),.int .i64 c,.pointer (some ⟨r,0,none⟩)] w λe w'=>e=.returned (.tuple #[])/\w'=(w.setCell ⟨r,0,none⟩ (.bool (b&&(decide (0<=x)&&decide (x<c))))).setCell ⟨q,o,none⟩ (.int .i64 0):=by
 obtain⟨p0,hp0⟩:=pE (decide (0<=x));obtain⟨p1,hp1⟩:=pE (decide (x<c));rw[hp0,hp1];have hn:¬r=q:=λe=>hqr e.symm
 have hx':∀v,(w.setCell ⟨r,0,none⟩ v).cell? ⟨q,o,none⟩=some (.int .i64 x):=λv=>by
  rw[World.cell?_of_block (w:=w) (Below.heap_setCell _ _ _ _ hqr)];exact hx
 have hf':∀v,(w.setCell ⟨r,0,none⟩ v).frozen? ⟨q,o,none⟩=false:=λv=>by
  have:=Below.heap_setCell w ⟨r,0,none⟩ v q hqr;unfold World.frozen? at hxf⊢;rw[this];exact hxf
 cases b<;>cases p0<;>cases p1
 all_goals
  go_enter Tryz.func44,Tryz.ntmps44
  go_wp2
  go_end0
  exact⟨rfl,rfl⟩
theorem Tryz.eqTerm_any {B : Nat} (n m : Nat) (a b : Option Addr) (ca cb : Nat) (g : Nat) (P : Nat -> Prop) (Y0 Y1 Y2 Z0 Z1 Z2 : Nat -> Value) (w : World) (hB : B <= w.heap.size) (enters : ∀ args w, (callFunc g args).run Tryz.prog w = .ok (.enter g args) w)
    (hY : ∀ j, j < n -> ∃ gg off, a = some ⟨gg, off, none⟩ /\ gg < B /\ (w.cell? ⟨gg, off + j * 3, none⟩ = some (Y0 j) /\ w.cell? ⟨gg, off + j * 3 + 1, none⟩ = some (Y1 j) /\ w.cell? ⟨gg, off + j * 3 + 2, none⟩ = some (Y2 j)) /\ #[Y0 j, Y1 j, Y2 j].all (·.oneCell') = true)
    (hZ : ∀ j, j < m -> ∃ gg off, b = some ⟨gg, off, none⟩ /\ gg < B /\ (w.cell? ⟨gg, off + j * 3, none⟩ = some (Z0 j) /\ w.cell? ⟨gg, off + j * 3 + 1, none⟩ = some (Z1 j) /\ w.cell? ⟨gg, off + j * 3 + 2, none⟩ = some (Z2 j)) /\ #[Z0 j, Z1 j, Z2 j].all (·.oneCell') = true)
    (hC : n = m -> ∀ (j : Nat) (W : World), j < n -> Below w.heap.size w W -> Calls Tryz.prog g #[.agg #[Y0 j, Y1 j, Y2 j], .agg #[Z0 j, Z1 j, Z2 j]] W λe w' => (∃ r, e = .returned (.bool r) /\ (r = true ↔ P j)) /\ Below W.heap.size W w') (hn : n <= 2147483647) :
    Calls Tryz.prog 62 #[.slice a n ca, .slice b m cb, .func (.func g) #[] #[]] w λe w' => (∃ r, e = .returned (.bool r) /\ (r = true ↔ n = m /\ ∀ j, j < n -> P j)) /\ Below w.heap.size w w' := by
  by_cases hnm : n = m
  rotate_left
  · have enn : ((n : Int) != (m : Int)) = true := by simp; omega
    have HN : Hid (¬ n = m) := hnm;clear hY hZ hC hnm
    go_enter Tryz.func62, Tryz.ntmps62
    go_wp2;go_ret;refine ⟨⟨_, rfl, ?_⟩, Below.refl _ w⟩;exact ⟨λh => (by cases h), λh => absurd h.1 HN.out⟩
  subst hnm;have HY : Hid _ := hY;have HZ : Hid _ := hZ;have HC : Hid _ := hC rfl;have HB : Hid (B <= w.heap.size) := hB;have enn : ((n : Int) != (n : Int)) = false := by simp
  clear hY hZ hC hB
  go_enter Tryz.func62, Tryz.ntmps62
  go_wp2
  go_loopg [17] n (λgk i wr => ∃ j : Nat, gk + j = n /\ i = .int .i64 j /\ Hid ((∀ i, i < j -> P i) /\ Below w.heap.size w wr))
  case atStart => exact ⟨0, by omega, rfl, λi h => absurd h (by omega), Below.refl _ w⟩
  case round =>
   obtain ⟨j, hj, rfl, HJ⟩ := hrel
   by_cases hjn : j < n
   rotate_left
   · have hd : decide ((j : Int) < n) = false := decide_eq_false (by omega)
     go_wp2;go_ret;refine ⟨⟨_, rfl, ?_⟩, HJ.out.2⟩;exact ⟨λ_ => ⟨by first | rfl | trivial, λi hi => HJ.out.1 i (by omega)⟩, λ_ => by first | rfl | trivial⟩
   have hd : decide ((j : Int) < n) = true := decide_eq_true (by omega);obtain ⟨ga, oa, rfl, hga, hya, h1a⟩ := HY.out j hjn;obtain ⟨gb, ob, rfl, hgb, hzb, h1b⟩ := HZ.out j hjn;have hcall : ∀ W, _ := HC.out j;obtain ⟨y0, hy0⟩ : ∃ v, Y0 j = v := ⟨_, rfl⟩;obtain ⟨y1, hy1⟩ : ∃ v, Y1 j = v := ⟨_, rfl⟩;obtain ⟨y2, hy2⟩ : ∃ v, Y2 j = v := ⟨_, rfl⟩;obtain ⟨z0, hz0⟩ : ∃ v, Z0 j = v := ⟨_, rfl⟩;obtain ⟨z1, hz1⟩ : ∃ v, Z1 j = v := ⟨_, rfl⟩;obtain ⟨z2, hz2⟩ : ∃ v, Z2 j = v := ⟨_, rfl⟩;rw [hy0, hy1, hy2] at hya h1a;rw [hz0, hz1, hz2] at hzb h1b;rw [hy0, hy1, hy2, hz0, hz1, hz2] at hcall;have hjn' : (j : Int) < n := by omega
   have hj0 : (0 : Int) <= j := by omega
   have hcA : ∀ p W, Below w.heap.size w W -> W.cell? ⟨ga, p, none⟩ = w.cell? ⟨ga, p, none⟩ := λp W hb => hb.cell (p := ⟨ga, p, none⟩) (by have := HB.out; show ga < _; omega);have hcB : ∀ p W, Below w.heap.size w W -> W.cell? ⟨gb, p, none⟩ = w.cell? ⟨gb, p, none⟩ := λp W hb => hb.cell (p := ⟨gb, p, none⟩) (by have := HB.out; show gb < _; omega);have HK1 : Hid ((wr.alloc (.cells #[.int .i64 0, .int .i64 0, .slice none 0 0] 24)).heap[wr.heap.size]? = some (.cells #[.int .i64 0, .int .i64 0, .slice none 0 0] 24 (0, 0))) := heap_alloc_new wr _;obtain ⟨V0, hV0⟩ : ∃ z, (wr.alloc (.cells #[.int .i64 0, .int .i64 0, .slice none 0 0] 24)).setRow wr.heap.size #[y0, y1, y2] = z := ⟨_, rfl⟩;have HV0 : Hid ((wr.alloc (.cells #[.int .i64 0, .int .i64 0, .slice none 0 0] 24)).setRow wr.heap.size #[y0, y1, y2] = V0) := hV0;have G1 : V0.heap[wr.heap.size]? = some (.cells #[y0, y1, y2] 24 (0, 0)) := by show _ = _; rw [<- hV0]; exact setRow_heap _ _ _ _ _ _ HK1.out
   have B1 : Below wr.heap.size wr V0 := by
     rw [<- hV0];exact ((Below.refl _ wr).alloc (Nat.le_refl _) _).trans ⟨rfl, rfl, rfl, by simp [World.setRow], λk hk => setRow_other _ _ _ _ (by omega)⟩
   have bb0 : Below w.heap.size w V0 := HJ.out.2.trans (B1.mono HJ.out.2.size);have HK2 : Hid ((V0.alloc (.cells #[.int .i64 0, .int .i64 0, .slice none 0 0] 24)).heap[V0.heap.size]? = some (.cells #[.int .i64 0, .int .i64 0, .slice none 0 0] 24 (0, 0))) := heap_alloc_new V0 _;obtain ⟨V1, hV1⟩ : ∃ z, (V0.alloc (.cells #[.int .i64 0, .int .i64 0, .slice none 0 0] 24)).setRow V0.heap.size #[z0, z1, z2] = z := ⟨_, rfl⟩;have HV1 : Hid ((V0.alloc (.cells #[.int .i64 0, .int .i64 0, .slice none 0 0] 24)).setRow V0.heap.size #[z0, z1, z2] = V1) := hV1;have G2 : V1.heap[V0.heap.size]? = some (.cells #[z0, z1, z2] 24 (0, 0)) := by show _ = _; rw [<- hV1]; exact setRow_heap _ _ _ _ _ _ HK2.out
   have B2 : Below V0.heap.size V0 V1 := by
     rw [<- hV1];exact ((Below.refl _ V0).alloc (Nat.le_refl _) _).trans ⟨rfl, rfl, rfl, by simp [World.setRow], λk hk => setRow_other _ _ _ _ (by omega)⟩
   have bb1 : Below w.heap.size w V1 := bb0.trans (B2.mono bb0.size);have hlt : wr.heap.size < V0.heap.size := (Array.getElem?_eq_some_iff.1 G1).1;have G3 := (B2.block wr.heap.size hlt).trans G1
   have ra : wr.cell? ⟨ga, oa + j * 3, none⟩ = some y0 /\ wr.cell? ⟨ga, oa + j * 3 + 1, none⟩ = some y1 /\ wr.cell? ⟨ga, oa + j * 3 + 2, none⟩ = some y2 := by
     obtain ⟨u0, u1, u2⟩ := hya;exact ⟨(hcA _ _ HJ.out.2).trans u0, (hcA _ _ HJ.out.2).trans u1, (hcA _ _ HJ.out.2).trans u2⟩
   have rb : V0.cell? ⟨gb, ob + j * 3, none⟩ = some z0 /\ V0.cell? ⟨gb, ob + j * 3 + 1, none⟩ = some z1 /\ V0.cell? ⟨gb, ob + j * 3 + 2, none⟩ = some z2 := by
     obtain ⟨u0, u1, u2⟩ := hzb;exact ⟨(hcB _ _ bb0).trans u0, (hcB _ _ bb0).trans u1, (hcB _ _ bb0).trans u2⟩
   have rc : V1.cell? ⟨wr.heap.size, 0, none⟩ = some y0 /\ V1.cell? ⟨wr.heap.size, 1, none⟩ = some y1 /\ V1.cell? ⟨wr.heap.size, 2, none⟩ = some y2 := by simp [World.cell?, G3]
   have rd : V1.cell? ⟨V0.heap.size, 0, none⟩ = some z0 /\ V1.cell? ⟨V0.heap.size, 1, none⟩ = some z1 /\ V1.cell? ⟨V0.heap.size, 2, none⟩ = some z2 := by simp [World.cell?, G2]
   obtain ⟨a0, a1, a2⟩ := ra;obtain ⟨b0, b1, b2⟩ := rb;obtain ⟨c0, c1, c2⟩ := rc;obtain ⟨d0, d1, d2⟩ := rd;have HA1 : Hid (#[y0, y1, y2].all (·.oneCell') = true) := h1a;have HA2 : Hid (#[z0, z1, z2].all (·.oneCell') = true) := h1b;have HCL : Hid _ := hcall V1 hjn bb1;have HB1 : Hid (Below w.heap.size w V1) := bb1;clear hy0 hy1 hy2 hz0 hz1 hz2 hya hzb h1a h1b hcall hcA hcB hV0 hV1 G1 G2 G3 B1 B2 bb0 bb1 hlt
   go_upto_region 6 with (refine wpList_store_row rfl 24 _ _ rfl wr.heap.size #[y0, y1, y2] rfl rfl 24 _ HK1.out (by kernel_rfl) rfl HA1.out ?_)
   rw [HV0.out]
   go_upto_region 7 with (refine wpList_store_row rfl 24 _ _ rfl V0.heap.size #[z0, z1, z2] rfl rfl 24 _ HK2.out (by kernel_rfl) rfl HA2.out ?_)
   rw [HV1.out]
   go_wp2_with fail
   refine Calls.mono HCL.out ?_;rintro e W2 ⟨⟨r, rfl, hr⟩, hb2⟩;have B4 : Hid (Below w.heap.size w W2 /\ (r = true ↔ P j)) := ⟨HB1.out.trans (hb2.mono HB1.out.size), hr⟩;clear hb2 hr HCL
   cases r with
   | true =>
     go_wp2;go_roundg (gk - 1)
     case measure => omega
     case rel =>
       refine ⟨j + 1, by omega, by go_num, λi hi => ?_, B4.out.1⟩
       rcases Nat.lt_or_ge i j with h1 | h1
       · exact HJ.out.1 i h1
       have : i = j := by omega
       subst this;exact B4.out.2.1 (by first | rfl | trivial)
   | false =>
     go_wp2;go_ret;refine ⟨⟨_, rfl, ?_⟩, B4.out.1⟩
     constructor
     · intro h; cases h
     intro h; have := B4.out.2.2 (h.2 j hjn); simp at this
theorem Tryz.eqNode_any {B : Nat} (n m : Nat) (a b : Option Addr) (ca cb : Nat) (g : Nat) (P : Nat -> Prop) (Y0 Y1 Y2 Y3 Y4 Z0 Z1 Z2 Z3 Z4 : Nat -> Value) (w : World) (hB : B <= w.heap.size) (enters : ∀ args w, (callFunc g args).run Tryz.prog w = .ok (.enter g args) w)
    (hY : ∀ j, j < n -> ∃ gg off, a = some ⟨gg, off, none⟩ /\ gg < B /\ (w.cell? ⟨gg, off + j * 5, none⟩ = some (Y0 j) /\ w.cell? ⟨gg, off + j * 5 + 1, none⟩ = some (Y1 j) /\ w.cell? ⟨gg, off + j * 5 + 2, none⟩ = some (Y2 j) /\ w.cell? ⟨gg, off + j * 5 + 3, none⟩ = some (Y3 j) /\ w.cell? ⟨gg, off + j * 5 + 4, none⟩ = some (Y4 j)) /\ #[Y0 j, Y1 j, Y2 j, Y3 j, Y4 j].all (·.oneCell') = true)
    (hZ : ∀ j, j < m -> ∃ gg off, b = some ⟨gg, off, none⟩ /\ gg < B /\ (w.cell? ⟨gg, off + j * 5, none⟩ = some (Z0 j) /\ w.cell? ⟨gg, off + j * 5 + 1, none⟩ = some (Z1 j) /\ w.cell? ⟨gg, off + j * 5 + 2, none⟩ = some (Z2 j) /\ w.cell? ⟨gg, off + j * 5 + 3, none⟩ = some (Z3 j) /\ w.cell? ⟨gg, off + j * 5 + 4, none⟩ = some (Z4 j)) /\ #[Z0 j, Z1 j, Z2 j, Z3 j, Z4 j].all (·.oneCell') = true)
    (hC : n = m -> ∀ (j : Nat) (W : World), j < n -> Below w.heap.size w W -> Calls Tryz.prog g #[.agg #[Y0 j, Y1 j, Y2 j, Y3 j, Y4 j], .agg #[Z0 j, Z1 j, Z2 j, Z3 j, Z4 j]] W λe w' => (∃ r, e = .returned (.bool r) /\ (r = true ↔ P j)) /\ Below W.heap.size W w') (hn : n <= 2147483647) :
    Calls Tryz.prog 64 #[.slice a n ca, .slice b m cb, .func (.func g) #[] #[]] w λe w' => (∃ r, e = .returned (.bool r) /\ (r = true ↔ n = m /\ ∀ j, j < n -> P j)) /\ Below w.heap.size w w' := by
  by_cases hnm : n = m
  rotate_left
  · have enn : ((n : Int) != (m : Int)) = true := by simp; omega
    have HN : Hid (¬ n = m) := hnm;clear hY hZ hC hnm
    go_enter Tryz.func64, Tryz.ntmps64
    go_wp2;go_ret;refine ⟨⟨_, rfl, ?_⟩, Below.refl _ w⟩;exact ⟨λh => (by cases h), λh => absurd h.1 HN.out⟩
  subst hnm;have HY : Hid _ := hY;have HZ : Hid _ := hZ;have HC : Hid _ := hC rfl;have HB : Hid (B <= w.heap.size) := hB;have enn : ((n : Int) != (n : Int)) = false := by simp
  clear hY hZ hC hB
  go_enter Tryz.func64, Tryz.ntmps64
  go_wp2
  go_loopg [17] n (λgk i wr => ∃ j : Nat, gk + j = n /\ i = .int .i64 j /\ Hid ((∀ i, i < j -> P i) /\ Below w.heap.size w wr))
  case atStart => exact ⟨0, by omega, rfl, λi h => absurd h (by omega), Below.refl _ w⟩
  case round =>
   obtain ⟨j, hj, rfl, HJ⟩ := hrel
   by_cases hjn : j < n
   rotate_left
   · have hd : decide ((j : Int) < n) = false := decide_eq_false (by omega)
     go_wp2;go_ret;refine ⟨⟨_, rfl, ?_⟩, HJ.out.2⟩;exact ⟨λ_ => ⟨by first | rfl | trivial, λi hi => HJ.out.1 i (by omega)⟩, λ_ => by first | rfl | trivial⟩
   have hd : decide ((j : Int) < n) = true := decide_eq_true (by omega);obtain ⟨ga, oa, rfl, hga, hya, h1a⟩ := HY.out j hjn;obtain ⟨gb, ob, rfl, hgb, hzb, h1b⟩ := HZ.out j hjn;have hcall : ∀ W, _ := HC.out j;obtain ⟨y0, hy0⟩ : ∃ v, Y0 j = v := ⟨_, rfl⟩;obtain ⟨y1, hy1⟩ : ∃ v, Y1 j = v := ⟨_, rfl⟩;obtain ⟨y2, hy2⟩ : ∃ v, Y2 j = v := ⟨_, rfl⟩;obtain ⟨y3, hy3⟩ : ∃ v, Y3 j = v := ⟨_, rfl⟩;obtain ⟨y4, hy4⟩ : ∃ v, Y4 j = v := ⟨_, rfl⟩;obtain ⟨z0, hz0⟩ : ∃ v, Z0 j = v := ⟨_, rfl⟩;obtain ⟨z1, hz1⟩ : ∃ v, Z1 j = v := ⟨_, rfl⟩;obtain ⟨z2, hz2⟩ : ∃ v, Z2 j = v := ⟨_, rfl⟩;obtain ⟨z3, hz3⟩ : ∃ v, Z3 j = v := ⟨_, rfl⟩;obtain ⟨z4, hz4⟩ : ∃ v, Z4 j = v := ⟨_, rfl⟩;rw [hy0, hy1, hy2, hy3, hy4] at hya h1a;rw [hz0, hz1, hz2, hz3, hz4] at hzb h1b;rw [hy0, hy1, hy2, hy3, hy4, hz0, hz1, hz2, hz3, hz4] at hcall;have hjn' : (j : Int) < n := by omega
   have hj0 : (0 : Int) <= j := by omega
   have hcA : ∀ p W, Below w.heap.size w W -> W.cell? ⟨ga, p, none⟩ = w.cell? ⟨ga, p, none⟩ := λp W hb => hb.cell (p := ⟨ga, p, none⟩) (by have := HB.out; show ga < _; omega);have hcB : ∀ p W, Below w.heap.size w W -> W.cell? ⟨gb, p, none⟩ = w.cell? ⟨gb, p, none⟩ := λp W hb => hb.cell (p := ⟨gb, p, none⟩) (by have := HB.out; show gb < _; omega);have HK1 : Hid ((wr.alloc (.cells #[.int .i64 0, .int .i64 0, .int .i64 0, .int .i64 0, .slice none 0 0] 62)).heap[wr.heap.size]? = some (.cells #[.int .i64 0, .int .i64 0, .int .i64 0, .int .i64 0, .slice none 0 0] 62 (0, 0))) := heap_alloc_new wr _;obtain ⟨V0, hV0⟩ : ∃ z, (wr.alloc (.cells #[.int .i64 0, .int .i64 0, .int .i64 0, .int .i64 0, .slice none 0 0] 62)).setRow wr.heap.size #[y0, y1, y2, y3, y4] = z := ⟨_, rfl⟩;have HV0 : Hid ((wr.alloc (.cells #[.int .i64 0, .int .i64 0, .int .i64 0, .int .i64 0, .slice none 0 0] 62)).setRow wr.heap.size #[y0, y1, y2, y3, y4] = V0) := hV0;have G1 : V0.heap[wr.heap.size]? = some (.cells #[y0, y1, y2, y3, y4] 62 (0, 0)) := by show _ = _; rw [<- hV0]; exact setRow_heap _ _ _ _ _ _ HK1.out
   have B1 : Below wr.heap.size wr V0 := by
     rw [<- hV0];exact ((Below.refl _ wr).alloc (Nat.le_refl _) _).trans ⟨rfl, rfl, rfl, by simp [World.setRow], λk hk => setRow_other _ _ _ _ (by omega)⟩
   have bb0 : Below w.heap.size w V0 := HJ.out.2.trans (B1.mono HJ.out.2.size);have HK2 : Hid ((V0.alloc (.cells #[.int .i64 0, .int .i64 0, .int .i64 0, .int .i64 0, .slice none 0 0] 62)).heap[V0.heap.size]? = some (.cells #[.int .i64 0, .int .i64 0, .int .i64 0, .int .i64 0, .slice none 0 0] 62 (0, 0))) := heap_alloc_new V0 _;obtain ⟨V1, hV1⟩ : ∃ z, (V0.alloc (.cells #[.int .i64 0, .int .i64 0, .int .i64 0, .int .i64 0, .slice none 0 0] 62)).setRow V0.heap.size #[z0, z1, z2, z3, z4] = z := ⟨_, rfl⟩;have HV1 : Hid ((V0.alloc (.cells #[.int .i64 0, .int .i64 0, .int .i64 0, .int .i64 0, .slice none 0 0] 62)).setRow V0.heap.size #[z0, z1, z2, z3, z4] = V1) := hV1;have G2 : V1.heap[V0.heap.size]? = some (.cells #[z0, z1, z2, z3, z4] 62 (0, 0)) := by show _ = _; rw [<- hV1]; exact setRow_heap _ _ _ _ _ _ HK2.out
   have B2 : Below V0.heap.size V0 V1 := by
     rw [<- hV1];exact ((Below.refl _ V0).alloc (Nat.le_refl _) _).trans ⟨rfl, rfl, rfl, by simp [World.setRow], λk hk => setRow_other _ _ _ _ (by omega)⟩
   have bb1 : Below w.heap.size w V1 := bb0.trans (B2.mono bb0.size);have hlt : wr.heap.size < V0.heap.size := (Array.getElem?_eq_some_iff.1 G1).1;have G3 := (B2.block wr.heap.size hlt).trans G1
   have ra : wr.cell? ⟨ga, oa + j * 5, none⟩ = some y0 /\ wr.cell? ⟨ga, oa + j * 5 + 1, none⟩ = some y1 /\ wr.cell? ⟨ga, oa + j * 5 + 2, none⟩ = some y2 /\ wr.cell? ⟨ga, oa + j * 5 + 3, none⟩ = some y3 /\ wr.cell? ⟨ga, oa + j * 5 + 4, none⟩ = some y4 := by
     obtain ⟨u0, u1, u2, u3, u4⟩ := hya;exact ⟨(hcA _ _ HJ.out.2).trans u0, (hcA _ _ HJ.out.2).trans u1, (hcA _ _ HJ.out.2).trans u2, (hcA _ _ HJ.out.2).trans u3, (hcA _ _ HJ.out.2).trans u4⟩
   have rb : V0.cell? ⟨gb, ob + j * 5, none⟩ = some z0 /\ V0.cell? ⟨gb, ob + j * 5 + 1, none⟩ = some z1 /\ V0.cell? ⟨gb, ob + j * 5 + 2, none⟩ = some z2 /\ V0.cell? ⟨gb, ob + j * 5 + 3, none⟩ = some z3 /\ V0.cell? ⟨gb, ob + j * 5 + 4, none⟩ = some z4 := by
     obtain ⟨u0, u1, u2, u3, u4⟩ := hzb;exact ⟨(hcB _ _ bb0).trans u0, (hcB _ _ bb0).trans u1, (hcB _ _ bb0).trans u2, (hcB _ _ bb0).trans u3, (hcB _ _ bb0).trans u4⟩
   have rc : V1.cell? ⟨wr.heap.size, 0, none⟩ = some y0 /\ V1.cell? ⟨wr.heap.size, 1, none⟩ = some y1 /\ V1.cell? ⟨wr.heap.size, 2, none⟩ = some y2 /\ V1.cell? ⟨wr.heap.size, 3, none⟩ = some y3 /\ V1.cell? ⟨wr.heap.size, 4, none⟩ = some y4 := by simp [World.cell?, G3]
   have rd : V1.cell? ⟨V0.heap.size, 0, none⟩ = some z0 /\ V1.cell? ⟨V0.heap.size, 1, none⟩ = some z1 /\ V1.cell? ⟨V0.heap.size, 2, none⟩ = some z2 /\ V1.cell? ⟨V0.heap.size, 3, none⟩ = some z3 /\ V1.cell? ⟨V0.heap.size, 4, none⟩ = some z4 := by simp [World.cell?, G2]
   obtain ⟨a0, a1, a2, a3, a4⟩ := ra;obtain ⟨b0, b1, b2, b3, b4⟩ := rb;obtain ⟨c0, c1, c2, c3, c4⟩ := rc;obtain ⟨d0, d1, d2, d3, d4⟩ := rd;have HA1 : Hid (#[y0, y1, y2, y3, y4].all (·.oneCell') = true) := h1a;have HA2 : Hid (#[z0, z1, z2, z3, z4].all (·.oneCell') = true) := h1b;have HCL : Hid _ := hcall V1 hjn bb1;have HB1 : Hid (Below w.heap.size w V1) := bb1;clear hy0 hy1 hy2 hy3 hy4 hz0 hz1 hz2 hz3 hz4 hya hzb h1a h1b hcall hcA hcB hV0 hV1 G1 G2 G3 B1 B2 bb0 bb1 hlt
   go_upto_region 6 with (refine wpList_store_row rfl 62 _ _ rfl wr.heap.size #[y0, y1, y2, y3, y4] rfl rfl 62 _ HK1.out (by kernel_rfl) rfl HA1.out ?_)
   rw [HV0.out]
   go_upto_region 7 with (refine wpList_store_row rfl 62 _ _ rfl V0.heap.size #[z0, z1, z2, z3, z4] rfl rfl 62 _ HK2.out (by kernel_rfl) rfl HA2.out ?_)
   rw [HV1.out]
   go_wp2_with fail
   refine Calls.mono HCL.out ?_;rintro e W2 ⟨⟨r, rfl, hr⟩, hb2⟩;have B4 : Hid (Below w.heap.size w W2 /\ (r = true ↔ P j)) := ⟨HB1.out.trans (hb2.mono HB1.out.size), hr⟩;clear hb2 hr HCL
   cases r with
   | true =>
     go_wp2;go_roundg (gk - 1)
     case measure => omega
     case rel =>
       refine ⟨j + 1, by omega, by go_num, λi hi => ?_, B4.out.1⟩
       rcases Nat.lt_or_ge i j with h1 | h1
       · exact HJ.out.1 i h1
       have : i = j := by omega
       subst this;exact B4.out.2.1 (by first | rfl | trivial)
   | false =>
     go_wp2;go_ret;refine ⟨⟨_, rfl, ?_⟩, B4.out.1⟩
     constructor
     · intro h; cases h
     intro h; have := B4.out.2.2 (h.2 j hjn); simp at this
theorem Tryz.eqFlow_any {B : Nat} (n m : Nat) (a b : Option Addr) (ca cb : Nat) (g : Nat) (P : Nat -> Prop) (Y0 Y1 Y2 Y3 Y4 Y5 Z0 Z1 Z2 Z3 Z4 Z5 : Nat -> Value) (w : World) (hB : B <= w.heap.size) (enters : ∀ args w, (callFunc g args).run Tryz.prog w = .ok (.enter g args) w)
    (hY : ∀ j, j < n -> ∃ gg off, a = some ⟨gg, off, none⟩ /\ gg < B /\ (w.cell? ⟨gg, off + j * 6, none⟩ = some (Y0 j) /\ w.cell? ⟨gg, off + j * 6 + 1, none⟩ = some (Y1 j) /\ w.cell? ⟨gg, off + j * 6 + 2, none⟩ = some (Y2 j) /\ w.cell? ⟨gg, off + j * 6 + 3, none⟩ = some (Y3 j) /\ w.cell? ⟨gg, off + j * 6 + 4, none⟩ = some (Y4 j) /\ w.cell? ⟨gg, off + j * 6 + 5, none⟩ = some (Y5 j)) /\ #[Y0 j, Y1 j, Y2 j, Y3 j, Y4 j, Y5 j].all (·.oneCell') = true)
    (hZ : ∀ j, j < m -> ∃ gg off, b = some ⟨gg, off, none⟩ /\ gg < B /\ (w.cell? ⟨gg, off + j * 6, none⟩ = some (Z0 j) /\ w.cell? ⟨gg, off + j * 6 + 1, none⟩ = some (Z1 j) /\ w.cell? ⟨gg, off + j * 6 + 2, none⟩ = some (Z2 j) /\ w.cell? ⟨gg, off + j * 6 + 3, none⟩ = some (Z3 j) /\ w.cell? ⟨gg, off + j * 6 + 4, none⟩ = some (Z4 j) /\ w.cell? ⟨gg, off + j * 6 + 5, none⟩ = some (Z5 j)) /\ #[Z0 j, Z1 j, Z2 j, Z3 j, Z4 j, Z5 j].all (·.oneCell') = true)
    (hC : n = m -> ∀ (j : Nat) (W : World), j < n -> Below w.heap.size w W -> Calls Tryz.prog g #[.agg #[Y0 j, Y1 j, Y2 j, Y3 j, Y4 j, Y5 j], .agg #[Z0 j, Z1 j, Z2 j, Z3 j, Z4 j, Z5 j]] W λe w' => (∃ r, e = .returned (.bool r) /\ (r = true ↔ P j)) /\ Below W.heap.size W w') (hn : n <= 2147483647) :
    Calls Tryz.prog 66 #[.slice a n ca, .slice b m cb, .func (.func g) #[] #[]] w λe w' => (∃ r, e = .returned (.bool r) /\ (r = true ↔ n = m /\ ∀ j, j < n -> P j)) /\ Below w.heap.size w w' := by
  by_cases hnm : n = m
  rotate_left
  · have enn : ((n : Int) != (m : Int)) = true := by simp; omega
    have HN : Hid (¬ n = m) := hnm;clear hY hZ hC hnm
    go_enter Tryz.func66, Tryz.ntmps66
    go_wp2;go_ret;refine ⟨⟨_, rfl, ?_⟩, Below.refl _ w⟩;exact ⟨λh => (by cases h), λh => absurd h.1 HN.out⟩
  subst hnm;have HY : Hid _ := hY;have HZ : Hid _ := hZ;have HC : Hid _ := hC rfl;have HB : Hid (B <= w.heap.size) := hB;have enn : ((n : Int) != (n : Int)) = false := by simp
  clear hY hZ hC hB
  go_enter Tryz.func66, Tryz.ntmps66
  go_wp2
  go_loopg [17] n (λgk i wr => ∃ j : Nat, gk + j = n /\ i = .int .i64 j /\ Hid ((∀ i, i < j -> P i) /\ Below w.heap.size w wr))
  case atStart => exact ⟨0, by omega, rfl, λi h => absurd h (by omega), Below.refl _ w⟩
  case round =>
   obtain ⟨j, hj, rfl, HJ⟩ := hrel
   by_cases hjn : j < n
   rotate_left
   · have hd : decide ((j : Int) < n) = false := decide_eq_false (by omega)
     go_wp2;go_ret;refine ⟨⟨_, rfl, ?_⟩, HJ.out.2⟩;exact ⟨λ_ => ⟨by first | rfl | trivial, λi hi => HJ.out.1 i (by omega)⟩, λ_ => by first | rfl | trivial⟩
   have hd : decide ((j : Int) < n) = true := decide_eq_true (by omega);obtain ⟨ga, oa, rfl, hga, hya, h1a⟩ := HY.out j hjn;obtain ⟨gb, ob, rfl, hgb, hzb, h1b⟩ := HZ.out j hjn;have hcall : ∀ W, _ := HC.out j;obtain ⟨y0, hy0⟩ : ∃ v, Y0 j = v := ⟨_, rfl⟩;obtain ⟨y1, hy1⟩ : ∃ v, Y1 j = v := ⟨_, rfl⟩;obtain ⟨y2, hy2⟩ : ∃ v, Y2 j = v := ⟨_, rfl⟩;obtain ⟨y3, hy3⟩ : ∃ v, Y3 j = v := ⟨_, rfl⟩;obtain ⟨y4, hy4⟩ : ∃ v, Y4 j = v := ⟨_, rfl⟩;obtain ⟨y5, hy5⟩ : ∃ v, Y5 j = v := ⟨_, rfl⟩;obtain ⟨z0, hz0⟩ : ∃ v, Z0 j = v := ⟨_, rfl⟩;obtain ⟨z1, hz1⟩ : ∃ v, Z1 j = v := ⟨_, rfl⟩;obtain ⟨z2, hz2⟩ : ∃ v, Z2 j = v := ⟨_, rfl⟩;obtain ⟨z3, hz3⟩ : ∃ v, Z3 j = v := ⟨_, rfl⟩;obtain ⟨z4, hz4⟩ : ∃ v, Z4 j = v := ⟨_, rfl⟩;obtain ⟨z5, hz5⟩ : ∃ v, Z5 j = v := ⟨_, rfl⟩;rw [hy0, hy1, hy2, hy3, hy4, hy5] at hya h1a;rw [hz0, hz1, hz2, hz3, hz4, hz5] at hzb h1b;rw [hy0, hy1, hy2, hy3, hy4, hy5, hz0, hz1, hz2, hz3, hz4, hz5] at hcall;have hjn' : (j : Int) < n := by omega
   have hj0 : (0 : Int) <= j := by omega
   have hcA : ∀ p W, Below w.heap.size w W -> W.cell? ⟨ga, p, none⟩ = w.cell? ⟨ga, p, none⟩ := λp W hb => hb.cell (p := ⟨ga, p, none⟩) (by have := HB.out; show ga < _; omega);have hcB : ∀ p W, Below w.heap.size w W -> W.cell? ⟨gb, p, none⟩ = w.cell? ⟨gb, p, none⟩ := λp W hb => hb.cell (p := ⟨gb, p, none⟩) (by have := HB.out; show gb < _; omega);have HK1 : Hid ((wr.alloc (.cells #[.int .i64 0, .int .i64 0, .bool false, .int .i64 0, .int .i64 0, .slice none 0 0] 64)).heap[wr.heap.size]? = some (.cells #[.int .i64 0, .int .i64 0, .bool false, .int .i64 0, .int .i64 0, .slice none 0 0] 64 (0, 0))) := heap_alloc_new wr _;obtain ⟨V0, hV0⟩ : ∃ z, (wr.alloc (.cells #[.int .i64 0, .int .i64 0, .bool false, .int .i64 0, .int .i64 0, .slice none 0 0] 64)).setRow wr.heap.size #[y0, y1, y2, y3, y4, y5] = z := ⟨_, rfl⟩;have HV0 : Hid ((wr.alloc (.cells #[.int .i64 0, .int .i64 0, .bool false, .int .i64 0, .int .i64 0, .slice none 0 0] 64)).setRow wr.heap.size #[y0, y1, y2, y3, y4, y5] = V0) := hV0;have G1 : V0.heap[wr.heap.size]? = some (.cells #[y0, y1, y2, y3, y4, y5] 64 (0, 0)) := by show _ = _; rw [<- hV0]; exact setRow_heap _ _ _ _ _ _ HK1.out
   have B1 : Below wr.heap.size wr V0 := by
     rw [<- hV0];exact ((Below.refl _ wr).alloc (Nat.le_refl _) _).trans ⟨rfl, rfl, rfl, by simp [World.setRow], λk hk => setRow_other _ _ _ _ (by omega)⟩
   have bb0 : Below w.heap.size w V0 := HJ.out.2.trans (B1.mono HJ.out.2.size);have HK2 : Hid ((V0.alloc (.cells #[.int .i64 0, .int .i64 0, .bool false, .int .i64 0, .int .i64 0, .slice none 0 0] 64)).heap[V0.heap.size]? = some (.cells #[.int .i64 0, .int .i64 0, .bool false, .int .i64 0, .int .i64 0, .slice none 0 0] 64 (0, 0))) := heap_alloc_new V0 _;obtain ⟨V1, hV1⟩ : ∃ z, (V0.alloc (.cells #[.int .i64 0, .int .i64 0, .bool false, .int .i64 0, .int .i64 0, .slice none 0 0] 64)).setRow V0.heap.size #[z0, z1, z2, z3, z4, z5] = z := ⟨_, rfl⟩;have HV1 : Hid ((V0.alloc (.cells #[.int .i64 0, .int .i64 0, .bool false, .int .i64 0, .int .i64 0, .slice none 0 0] 64)).setRow V0.heap.size #[z0, z1, z2, z3, z4, z5] = V1) := hV1;have G2 : V1.heap[V0.heap.size]? = some (.cells #[z0, z1, z2, z3, z4, z5] 64 (0, 0)) := by show _ = _; rw [<- hV1]; exact setRow_heap _ _ _ _ _ _ HK2.out
   have B2 : Below V0.heap.size V0 V1 := by
     rw [<- hV1];exact ((Below.refl _ V0).alloc (Nat.le_refl _) _).trans ⟨rfl, rfl, rfl, by simp [World.setRow], λk hk => setRow_other _ _ _ _ (by omega)⟩
   have bb1 : Below w.heap.size w V1 := bb0.trans (B2.mono bb0.size);have hlt : wr.heap.size < V0.heap.size := (Array.getElem?_eq_some_iff.1 G1).1;have G3 := (B2.block wr.heap.size hlt).trans G1
   have ra : wr.cell? ⟨ga, oa + j * 6, none⟩ = some y0 /\ wr.cell? ⟨ga, oa + j * 6 + 1, none⟩ = some y1 /\ wr.cell? ⟨ga, oa + j * 6 + 2, none⟩ = some y2 /\ wr.cell? ⟨ga, oa + j * 6 + 3, none⟩ = some y3 /\ wr.cell? ⟨ga, oa + j * 6 + 4, none⟩ = some y4 /\ wr.cell? ⟨ga, oa + j * 6 + 5, none⟩ = some y5 := by
     obtain ⟨u0, u1, u2, u3, u4, u5⟩ := hya;exact ⟨(hcA _ _ HJ.out.2).trans u0, (hcA _ _ HJ.out.2).trans u1, (hcA _ _ HJ.out.2).trans u2, (hcA _ _ HJ.out.2).trans u3, (hcA _ _ HJ.out.2).trans u4, (hcA _ _ HJ.out.2).trans u5⟩
   have rb : V0.cell? ⟨gb, ob + j * 6, none⟩ = some z0 /\ V0.cell? ⟨gb, ob + j * 6 + 1, none⟩ = some z1 /\ V0.cell? ⟨gb, ob + j * 6 + 2, none⟩ = some z2 /\ V0.cell? ⟨gb, ob + j * 6 + 3, none⟩ = some z3 /\ V0.cell? ⟨gb, ob + j * 6 + 4, none⟩ = some z4 /\ V0.cell? ⟨gb, ob + j * 6 + 5, none⟩ = some z5 := by
     obtain ⟨u0, u1, u2, u3, u4, u5⟩ := hzb;exact ⟨(hcB _ _ bb0).trans u0, (hcB _ _ bb0).trans u1, (hcB _ _ bb0).trans u2, (hcB _ _ bb0).trans u3, (hcB _ _ bb0).trans u4, (hcB _ _ bb0).trans u5⟩
   have rc : V1.cell? ⟨wr.heap.size, 0, none⟩ = some y0 /\ V1.cell? ⟨wr.heap.size, 1, none⟩ = some y1 /\ V1.cell? ⟨wr.heap.size, 2, none⟩ = some y2 /\ V1.cell? ⟨wr.heap.size, 3, none⟩ = some y3 /\ V1.cell? ⟨wr.heap.size, 4, none⟩ = some y4 /\ V1.cell? ⟨wr.heap.size, 5, none⟩ = some y5 := by simp [World.cell?, G3]
   have rd : V1.cell? ⟨V0.heap.size, 0, none⟩ = some z0 /\ V1.cell? ⟨V0.heap.size, 1, none⟩ = some z1 /\ V1.cell? ⟨V0.heap.size, 2, none⟩ = some z2 /\ V1.cell? ⟨V0.heap.size, 3, none⟩ = some z3 /\ V1.cell? ⟨V0.heap.size, 4, none⟩ = some z4 /\ V1.cell? ⟨V0.heap.size, 5, none⟩ = some z5 := by simp [World.cell?, G2]
   obtain ⟨a0, a1, a2, a3, a4, a5⟩ := ra;obtain ⟨b0, b1, b2, b3, b4, b5⟩ := rb;obtain ⟨c0, c1, c2, c3, c4, c5⟩ := rc;obtain ⟨d0, d1, d2, d3, d4, d5⟩ := rd;have HA1 : Hid (#[y0, y1, y2, y3, y4, y5].all (·.oneCell') = true) := h1a;have HA2 : Hid (#[z0, z1, z2, z3, z4, z5].all (·.oneCell') = true) := h1b;have HCL : Hid _ := hcall V1 hjn bb1;have HB1 : Hid (Below w.heap.size w V1) := bb1;clear hy0 hy1 hy2 hy3 hy4 hy5 hz0 hz1 hz2 hz3 hz4 hz5 hya hzb h1a h1b hcall hcA hcB hV0 hV1 G1 G2 G3 B1 B2 bb0 bb1 hlt
   go_upto_region 6 with (refine wpList_store_row rfl 64 _ _ rfl wr.heap.size #[y0, y1, y2, y3, y4, y5] rfl rfl 64 _ HK1.out (by kernel_rfl) rfl HA1.out ?_)
   rw [HV0.out]
   go_upto_region 7 with (refine wpList_store_row rfl 64 _ _ rfl V0.heap.size #[z0, z1, z2, z3, z4, z5] rfl rfl 64 _ HK2.out (by kernel_rfl) rfl HA2.out ?_)
   rw [HV1.out]
   go_wp2_with fail
   refine Calls.mono HCL.out ?_;rintro e W2 ⟨⟨r, rfl, hr⟩, hb2⟩;have B4 : Hid (Below w.heap.size w W2 /\ (r = true ↔ P j)) := ⟨HB1.out.trans (hb2.mono HB1.out.size), hr⟩;clear hb2 hr HCL
   cases r with
   | true =>
     go_wp2;go_roundg (gk - 1)
     case measure => omega
     case rel =>
       refine ⟨j + 1, by omega, by go_num, λi hi => ?_, B4.out.1⟩
       rcases Nat.lt_or_ge i j with h1 | h1
       · exact HJ.out.1 i h1
       have : i = j := by omega
       subst this;exact B4.out.2.1 (by first | rfl | trivial)
   | false =>
     go_wp2;go_ret;refine ⟨⟨_, rfl, ?_⟩, B4.out.1⟩
     constructor
     · intro h; cases h
     intro h; have := B4.out.2.2 (h.2 j hjn); simp at this
theorem Rk.inB_iff (n i:Int):Rk.inB n i=true↔0<=i/\i<n:=by simp[Rk.inB]
theorem Rk.chk_ok {n:Int}{rs:List (Int×Int)}(h:Rk.chk n rs=0):∃(k:Nat) (es:List (Nat×Nat)),n=k/\k<=64/\rs=Rk.up es/\es.length<=256/\∀e,e∈es->e.1<k/\e.2<k:=by
 unfold Rk.chk at h
 split at h
 ·simp at h
 next h1=>
 split at h
 ·simp at h
 next h2=>
 split at h
 ·simp at h
 next h3=>
 obtain⟨k,rfl⟩:∃k:Nat,n=k:=⟨n.toNat,by omega⟩;rw[Bool.not_eq_true,List.any_eq_false]at h3
 have hr:∀e,e∈rs->0<=e.1/\e.1<k/\0<=e.2/\e.2<k:=by
  intro e he;have:=h3 e he;simp only[Rk.outB,Bool.or_eq_true,Bool.not_eq_true',not_or,Bool.not_eq_false,Rk.inB_iff]at this;exact⟨this.1.1,this.1.2,this.2.1,this.2.2⟩
 refine⟨k,rs.map λe=>(e.1.toNat,e.2.toNat),rfl,by omega, ?_,by simp;omega, ?_⟩
 ·rw[Rk.up,List.map_map]
  symm
  refine(List.map_congr_left (λe he=> ?_)).trans (List.map_id rs);have:=hr e he;obtain⟨x,y⟩:=e;simp only[Function.comp_apply,id_eq,Prod.mk.injEq];omega
 intro e he;obtain⟨x,hx,rfl⟩:=List.mem_map.1 he;have:=hr x hx;simp only;omega
end Go.Proofs
