import Derived.Test.YtenaelpdnccgnaaGreatDoorRAllNtTwoB
import Derived.Test.YtenaelpdnccgnaaGreatDoorRBwClone
set_option maxRecDepth 100000
set_option maxHeartbeats 32000000
namespace Go.Proofs
open Go.RowKit Go.Shelf
theorem Tryz.rFirst_any (kd:Int)(a:Option Addr)(c d:Nat)(af:Option Addr)(m cf:Nat)(ns:List Nd)(w:World)(hE:Nt.Nds w w.heap.size d a ns)(hn:ns.length<=100):
  Calls Tryz.prog 111 #[.agg #[.slice a ns.length c,.slice af m cf],.int .i64 kd] w λe w'=>e=.returned (.int .i64 (Nt.firstI ns kd))/\Below w.heap.size w w':=by
 rw[Nt.firstI_eq];obtain⟨w1,hw1⟩:=pE (w.alloc (.cells #[.slice a ns.length c,.slice af m cf] 30));have A1:=pB hw1
 obtain⟨n,hnn⟩:=pE (ns.length);rw[hnn]at hn hw1⊢;obtain⟨r,hr⟩:=pE (Nt.findI (λx:Nd=>decide (x.kind=kd)) ns);rw[hr];have HR:Hid (Nt.findI (λx:Nd=>decide (x.kind=kd)) ns=r):=hr;have HE:Hid (Nt.Nds w w.heap.size d a ns/\ns.length=n):=⟨hE,hnn⟩;have H1:Hid (w.alloc (.cells #[.slice a n c,.slice af m cf] 30)=w1):=hw1;have HA:Hid (Below w.heap.size w w1):=A1;clear hE hnn hr hw1 A1
 go_enter Tryz.func111,Tryz.ntmps111
 go_wp2;rw[H1.out]
 go_loopg [10] n (λgk s10 wr=>∃k:Nat,gk+k=n/\s10=.int .i64 k/\Hid (Below w.heap.size w wr/\(ns.take k).any (λx:Nd=>decide (x.kind=kd))=false))
 case atStart=>exact⟨0,by omega,rfl,HA.out,by simp⟩
 case round=>
  obtain⟨k,hk,rfl,HB⟩:=hrel;clear H1 HA
  by_cases hlt:k<n
  rotate_left
  ·have hd:decide ((k:Int)<n)=false:=decide_eq_false (by omega)
   go_wp2;go_ret;have:=HB.out.2;rw[List.take_of_length_le (by rw[HE.out.2];omega)]at this;exact⟨Tk.ret_int ((Nt.findI_none this).symm.trans HR.out),HB.out.1⟩
  have hd:decide ((k:Int)<n)=true:=decide_eq_true (by omega);have hkl:k<ns.length:=by rw[HE.out.2];exact hlt
  obtain⟨q,off,u,rfl,hq,h0,h1,h2,h3,h4,h5⟩:=HE.out.1 k hkl;obtain⟨au,cu,rfl⟩:=h5.shape;obtain⟨nu,hnu⟩:=pE (ns[k].t.ks.length);rw[hnu]at h4;obtain⟨x0,hx0⟩:=pE (ns[k].kind);obtain⟨x1,hx1⟩:=pE (ns[k].a);obtain⟨x2,hx2⟩:=pE (ns[k].t.op);obtain⟨x3,hx3⟩:=pE (ns[k].t.num);have hc:∀o,wr.cell? ⟨q,o,none⟩=w.cell? ⟨q,o,none⟩:=λo=>HB.out.1.cell (p:=⟨q,o,none⟩) hq;have hc0:wr.cell? ⟨q,off+k*5,none⟩=some (.int .i64 x0):=by rw[hc,<-hx0];exact h0
  have hc1:wr.cell? ⟨q,off+k*5+1,none⟩=some (.int .i64 x1):=by rw[hc,<-hx1];exact h1
  have hc2:wr.cell? ⟨q,off+k*5+2,none⟩=some (.int .i64 x2):=by rw[hc,<-hx2];exact h2
  have hc3:wr.cell? ⟨q,off+k*5+3,none⟩=some (.int .i64 x3):=by rw[hc,<-hx3];exact h3
  have hc4:wr.cell? ⟨q,off+k*5+4,none⟩=some (.slice au nu cu):=by rw[hc];exact h4
  have hu:=Tryz.underlying62;have HX:Hid (ns[k].kind=x0):=hx0;have BN:Hid (Below w.heap.size w (wr.alloc (.cells #[.int .i64 x0,.int .i64 x1,.int .i64 x2,.int .i64 x3,.slice au nu cu] 62))):=HB.out.1.alloc HB.out.1.size _;clear h0 h1 h2 h3 h4 h5 hc hx0 hx1 hx2 hx3 hnu hq
  by_cases hk2:x0=kd
  ·have e1:(x0==kd)=true:=by simpa using hk2
   have HQ:Hid ((λx:Nd=>decide (x.kind=kd)) ns[k]=true):=decide_eq_true (HX.out.trans hk2);clear hk2;go_wp2;go_ret;exact⟨Tk.ret_int ((Nt.findI_at hkl HB.out.2 HQ.out).symm.trans HR.out),BN.out⟩
  have e1:(x0==kd)=false:=by simpa using hk2
  have HQ:Hid (decide (ns[k].kind=kd)=false):=decide_eq_false (by rw[HX.out];exact hk2);clear hk2;go_wp2;go_roundg (gk-1)
  case measure=>omega
  case rel=>
   refine⟨k+1,by omega,by go_num,BN.out, ?_⟩;rw[Tm.take_snoc _ _ hkl,List.any_append,HB.out.2];simp[HQ.out]
theorem Tryz.rone_plain (k a op num m:Int)(sa:Option Addr)(n cap:Nat)(zb:Bool)(w:World)(hk:(k=1/\m=0)∨(k=2/\m=0)∨(k=5/\m=0)∨(k=6/\m=0)∨(k=7/\m=0)∨(k=3/\m=3)∨(k=8/\m=4))
  (hZ:∀W,Calls Tryz.prog 143 #[.agg #[.int .i64 op,.int .i64 num,.slice sa n cap]] W λe w'=>e=.returned (.bool zb)/\Below W.heap.size W w'):
  Calls Tryz.prog 109 #[.agg #[.int .i64 k,.int .i64 a,.int .i64 op,.int .i64 num,.slice sa n cap]] w λe w'=>e=.returned (.bool (decide (0<=a)&&decide (a<=m)&&zb))/\Below w.heap.size w w':=by
 have B0:Hid (Below w.heap.size w (w.alloc (.cells #[.int .i64 k,.int .i64 a,.int .i64 op,.int .i64 num,.slice sa n cap] 62))):=(Below.refl _ w).alloc (Nat.le_refl _) _;have HZ:Hid _:=hZ;clear hZ
 rcases hk with⟨rfl,rfl⟩|⟨rfl,rfl⟩|⟨rfl,rfl⟩|⟨rfl,rfl⟩|⟨rfl,rfl⟩|⟨rfl,rfl⟩|⟨rfl,rfl⟩
 all_goals
  rcases Int.lt_or_le a 0 with h0|h0
  ·have e0:decide (a<0)=true:=decide_eq_true h0
   have e1:decide (0<=a)=false:=decide_eq_false (by omega);rw[e1];clear h0 e1
   go_enter Tryz.func109,Tryz.ntmps109
   go_wp2;go_ret;exact⟨Tk.ret_bool rfl,B0.out⟩
  have e0:decide (a<0)=false:=decide_eq_false (by omega);have e2:decide (0<=a)=true:=decide_eq_true h0;rw[e2];clear e2
  first
  |(by_cases h1:a<=0;rotate_left;exact(by
     have e1:decide (a<=0)=false:=decide_eq_false h1;rw[e1];clear h0 h1
     go_enter Tryz.func109,Tryz.ntmps109
     go_wp2;go_ret
     exact⟨Tk.ret_bool rfl,B0.out⟩)
    have e1:decide (a<=0)=true:=decide_eq_true h1
    rw[e1])
  |(by_cases h1:a<=3;rotate_left;exact(by
     have e1:decide (a<=3)=false:=decide_eq_false h1;rw[e1];clear h0 h1
     go_enter Tryz.func109,Tryz.ntmps109
     go_wp2;go_ret
     exact⟨Tk.ret_bool rfl,B0.out⟩)
    have e1:decide (a<=3)=true:=decide_eq_true h1
    rw[e1])
  |(by_cases h1:a<=4;rotate_left;exact(by
     have e1:decide (a<=4)=false:=decide_eq_false h1;rw[e1];clear h0 h1
     go_enter Tryz.func109,Tryz.ntmps109
     go_wp2;go_ret
     exact⟨Tk.ret_bool rfl,B0.out⟩)
    have e1:decide (a<=4)=true:=decide_eq_true h1
    rw[e1])
  clear h0 h1
  go_enter Tryz.func109,Tryz.ntmps109
  go_wp2_with fail
  refine Calls.mono (HZ.out _) ?_;rintro e W ⟨rfl,hb⟩;have B2:Hid (Below w.heap.size w W):=B0.out.trans (hb.mono B0.out.size);clear hb HZ;go_wp2;go_ret;exact⟨Tk.ret_bool rfl,B2.out⟩
theorem Tryz.rone_other (k a op num:Int)(sa:Option Addr)(n cap:Nat)(w:World)(hk:k<1∨8<k):
  Calls Tryz.prog 109 #[.agg #[.int .i64 k,.int .i64 a,.int .i64 op,.int .i64 num,.slice sa n cap]] w λe w'=>e=.returned (.bool false)/\Below w.heap.size w w':=by
 have B0:Hid (Below w.heap.size w (w.alloc (.cells #[.int .i64 k,.int .i64 a,.int .i64 op,.int .i64 num,.slice sa n cap] 62))):=(Below.refl _ w).alloc (Nat.le_refl _) _
 obtain h1|⟨h1,h2⟩:decide (k<1)=true∨(decide (k<1)=false/\decide (8<k)=true):=by simp;omega
 all_goals
  clear hk
  go_enter Tryz.func109,Tryz.ntmps109
  go_wp2;go_ret;exact⟨rfl,B0.out⟩
theorem Tryz.rone_assign (a op num:Int)(sa:Option Addr)(n cap:Nat)(ob:Bool)(w:World)
  (hO:∀W,Below w.heap.size w W->Calls Tryz.prog 142 #[.agg #[.int .i64 op,.int .i64 num,.slice sa n cap],.int .i64 1] W λe w'=>e=.returned (.bool ob)/\Below W.heap.size W w'):
  Calls Tryz.prog 109 #[.agg #[.int .i64 4,.int .i64 a,.int .i64 op,.int .i64 num,.slice sa n cap]] w λe w'=>e=.returned (.bool (decide (0<=a)&&decide (a<=3)&&ob))/\Below w.heap.size w w':=by
 have A0:Below w.heap.size w (w.alloc (.cells #[.int .i64 4,.int .i64 a,.int .i64 op,.int .i64 num,.slice sa n cap] 62)):=(Below.refl _ w).alloc (Nat.le_refl _) _;have HO:Hid _:=hO _ A0;have B0:Hid _:=A0;clear hO A0
 rcases Int.lt_or_le a 0 with h0|h0
 ·have e0:decide (a<0)=true:=decide_eq_true h0
  have HD:Hid ((decide (0<=a)&&decide (a<=3)&&ob)=false):=by show _=_;rw[decide_eq_false (by omega)];rfl
  rw[HD.out];clear h0 HO
  go_enter Tryz.func109,Tryz.ntmps109
  go_wp2;go_ret;exact⟨rfl,B0.out⟩
 have e0:decide (a<0)=false:=decide_eq_false (by omega)
 by_cases h3:a<4
 ·have e3:decide (a<4)=true:=decide_eq_true h3
  have HD:Hid ((decide (0<=a)&&decide (a<=3)&&ob)=ob):=by show _=_;rw[decide_eq_true h0,decide_eq_true (by omega)];rfl
  rw[HD.out];clear h0 h3
  go_enter Tryz.func109,Tryz.ntmps109
  go_wp2_with fail
  refine Calls.mono HO.out ?_;rintro e W ⟨rfl,hb⟩;have B2:Hid (Below w.heap.size w W):=B0.out.trans (hb.mono B0.out.size);clear hb HO;go_wp2;go_ret;exact⟨Tk.ret_bool rfl,B2.out⟩
 have e3:decide (a<4)=false:=decide_eq_false h3;have HD:Hid ((decide (0<=a)&&decide (a<=3)&&ob)=false):=by show _=_;rw[decide_eq_true h0,decide_eq_false (by omega)];rfl
 rw[HD.out];clear h0 h3 HO
 go_enter Tryz.func109,Tryz.ntmps109
 go_wp2;go_ret;exact⟨rfl,B0.out⟩
theorem Tryz.rone_any (d:Nat)(x:Nd)(v:Value)(w:World)(hT:Tm.Lies w w.heap.size d v x.t)(hsz:x.t.size<=2147483647):
  Calls Tryz.prog 109 #[.agg #[.int .i64 x.kind,.int .i64 x.a,.int .i64 x.t.op,.int .i64 x.t.num,v]] w λe w'=>e=.returned (.bool (Nt.oneB x))/\Below w.heap.size w w':=by
 obtain⟨a,cap,rfl⟩:=hT.shape
 rcases Nt.kinds x.kind with⟨m,hk⟩|hk|hk
 ·rw[Nt.oneB_plain x m hk]
  exact Tryz.rone_plain x.kind x.a x.t.op x.t.num m a x.t.ks.length cap (Nt.zeroB x.t) w hk (λW=>Tryz.rnone_any x.t a cap W)
 ·rw[Nt.oneB_assign x hk,hk]
  exact Tryz.rone_assign x.a x.t.op x.t.num a x.t.ks.length cap (Nt.ofB x.t 1) w (λW hb=>Tryz.rof_any 1 d x.t (.slice a x.t.ks.length cap) W ((hT.below hb).wider hb.size) hsz)
 rw[Nt.oneB_other x hk];exact Tryz.rone_other x.kind x.a x.t.op x.t.num a x.t.ks.length cap w hk
theorem Tryz.rtwo_any (f:Fl)(v:Value)(an:Option Addr)(cn:Nat)(af:Option Addr)(cf d:Nat)(ns:List Nd)(fs:List Fl)(w:World)(hH:Nt.Has w w.heap.size d an af ns fs)(hT:Tm.Lies w w.heap.size d v f.c)(hsz:f.c.size<=2147483647):
  Calls Tryz.prog 110 #[.agg #[.slice an ns.length cn,.slice af fs.length cf],.agg #[.int .i64 f.fr,.int .i64 f.to,.bool f.els,.int .i64 f.c.op,.int .i64 f.c.num,v]] w λe w'=>e=.returned (.bool (Nt.twoB ns fs f))/\Below w.heap.size w w':=by
 obtain⟨au,cu,rfl⟩:=hT.shape;obtain⟨W0,hW0⟩:=pE ((w.alloc (.cells #[.slice an ns.length cn,.slice af fs.length cf] 30)).alloc (.cells #[.int .i64 f.fr,.int .i64 f.to,.bool f.els,.int .i64 f.c.op,.int .i64 f.c.num,.slice au f.c.ks.length cu] 64));have A0:Below w.heap.size w W0:=by rw[<-hW0];exact((Below.refl _ w).alloc (Nat.le_refl _) _).alloc (by simp) _
 have G0:W0.heap[w.heap.size]? =some (.cells #[.slice an ns.length cn,.slice af fs.length cf] 30 (0,0)):=by rw[<-hW0,Below.heap_alloc _ _ _ (by simp)];exact heap_alloc_new w _
 have F0:W0.heap[w.heap.size+1]? =some (.cells #[.int .i64 f.fr,.int .i64 f.to,.bool f.els,.int .i64 f.c.op,.int .i64 f.c.num,.slice au f.c.ks.length cu] 64 (0,0)):=by
  rw[<-hW0];have:=heap_alloc_new (w.alloc (.cells #[.slice an ns.length cn,.slice af fs.length cf] 30)) (.cells #[.int .i64 f.fr,.int .i64 f.to,.bool f.els,.int .i64 f.c.op,.int .i64 f.c.num,.slice au f.c.ks.length cu] 64);simpa using this
 have hof:∀W,Below w.heap.size w W->Calls Tryz.prog 142 #[.agg #[.int .i64 f.c.op,.int .i64 f.c.num,.slice au f.c.ks.length cu],.int .i64 2] W λe w'=>e=.returned (.bool (Nt.ofB f.c 2))/\Below W.heap.size W w':=λW hb=>
  Tryz.rof_any 2 d f.c (.slice au f.c.ks.length cu) W ((hT.below hb).wider hb.size) hsz
 have hnone:∀W,Calls Tryz.prog 143 #[.agg #[.int .i64 f.c.op,.int .i64 f.c.num,.slice au f.c.ks.length cu]] W λe w'=>e=.returned (.bool (Nt.zeroB f.c))/\Below W.heap.size W w':=λW=>Tryz.rnone_any f.c au cu W
 have houts:∀W,Below w.heap.size w W->Calls Tryz.prog 144 #[.agg #[.slice an ns.length cn,.slice af fs.length cf],.int .i64 f.fr] W λe w'=>∃a c,e=.returned (.slice a (Nt.outsN fs f.fr) c)/\Hid (Below W.heap.size W w'):=λW hb=>
  (Tryz.rOuts_any f.fr an ns.length cn af cf d fs W ((hH.fls.below hb).wider hb.size) hH.flen).mono λe w' h=>by
   obtain⟨x,hx,ho,hbb⟩:=h;obtain⟨a,c,rfl⟩:=Rk.own_shape ho;rw[Nt.outsL_len]at hx;exact⟨a,c,hx,hbb⟩
 have hnk:∀x:Nat,x<ns.length->∃g o2,an=some ⟨g,o2,none⟩/\g<w.heap.size/\∀W,Below w.heap.size w W->W.cell? ⟨g,o2+x*5,none⟩=some (.int .i64 (Nt.kindAt ns x)):=λx hx=>by
  obtain⟨g,o2,u',e1,e2,e3,_⟩:=hH.nds x hx;exact⟨g,o2,e1,e2,λW hb=>by rw[hb.cell (p:=⟨g,o2+x*5,none⟩) e2,Nt.kindAt_get ns x hx];exact e3⟩
 have hol:Nt.outsN fs f.fr<=100:=by unfold Nt.outsN;have:=List.countP_le_length (l:=fs) (p:=λg=>decide (g.fr=f.fr));have:=hH.flen;omega
 have hnl:=hH.nlen;obtain⟨nu,hnu⟩:=pE (f.c.ks.length);obtain⟨fr,hfr⟩:=pE (f.fr);obtain⟨tt,hto⟩:=pE (f.to);obtain⟨els,hel⟩:=pE (f.els);obtain⟨op,hop⟩:=pE (f.c.op);obtain⟨num,hnum⟩:=pE (f.c.num);obtain⟨n,hnn⟩:=pE (ns.length);obtain⟨m,hmm⟩:=pE (fs.length);obtain⟨ob,hob⟩:=pE (Nt.ofB f.c 2);obtain⟨zb,hzb⟩:=pE (Nt.zeroB f.c);obtain⟨o,ho⟩:=pE (Nt.outsN fs f.fr);obtain⟨r,hr⟩:=pE (Nt.twoB ns fs f);rw[hop,hnum,hnu,hob]at hof;rw[hop,hnum,hnu,hzb]at hnone;rw[ho]at hol houts;rw[hfr,hnn,hmm]at houts;rw[hfr,hto,hel,hop,hnum,hnu,hnn,hmm]at hW0;rw[hfr,hto,hel,hop,hnum,hnu]at F0;rw[hnn,hmm]at G0;rw[hr,hfr,hto,hel,hop,hnum,hnu,hnn,hmm];rw[hnn]at hnl
 have HB:Hid (∀W,Below W0.heap.size W0 W->W.cell? ⟨w.heap.size,0,none⟩=some (.slice an n cn)/\W.cell? ⟨w.heap.size,1,none⟩=some (.slice af m cf)/\W.heap[w.heap.size+1]? =some (.cells #[.int .i64 fr,.int .i64 tt,.bool els,.int .i64 op,.int .i64 num,.slice au nu cu] 64 (0,0))/\Below w.heap.size w W):=λW hb=>by
  obtain⟨p0,p1⟩:=Nt.box2 ((hb.block _ (Nt.lt_of G0)).trans G0);exact⟨p0,p1,(hb.block _ (Nt.lt_of F0)).trans F0,A0.trans (hb.mono A0.size)⟩
 have HR:Hid (Nt.twoB ns fs f=r/\f.fr=fr/\f.to=tt/\f.els=els/\ns.length=n/\Nt.ofB f.c 2=ob/\Nt.zeroB f.c=zb/\Nt.outsN fs f.fr=o):=⟨hr,hfr,hto,hel,hnn,hob,hzb,ho⟩;have HW0:Hid ((w.alloc (.cells #[.slice an n cn,.slice af m cf] 30)).alloc (.cells #[.int .i64 fr,.int .i64 tt,.bool els,.int .i64 op,.int .i64 num,.slice au nu cu] 64)=W0):=hW0;have CO:Hid (∀W,Below W0.heap.size W0 W->Calls Tryz.prog 144 #[.agg #[.slice an n cn,.slice af m cf],.int .i64 fr] W λe w'=>∃a c,e=.returned (.slice a o c)/\Hid (Below W0.heap.size W0 w')):=λW hb=>(houts W (A0.trans (hb.mono A0.size))).mono λe w' ⟨a,c,h1,h2⟩=>⟨a,c,h1,hb.trans (h2.out.mono hb.size)⟩;have CF:Hid (∀W,Below W0.heap.size W0 W->Calls Tryz.prog 142 #[.agg #[.int .i64 op,.int .i64 num,.slice au nu cu],.int .i64 2] W λe w'=>e=.returned (.bool ob)/\Hid (Below w.heap.size w w')):=λW hb=>(hof W (A0.trans (hb.mono A0.size))).mono λe w' ⟨h1,h2⟩=>⟨h1,(A0.trans (hb.mono A0.size)).trans (h2.mono (Nat.le_trans A0.size hb.size))⟩;have CN:Hid (∀W,Below W0.heap.size W0 W->Calls Tryz.prog 143 #[.agg #[.int .i64 op,.int .i64 num,.slice au nu cu]] W λe w'=>e=.returned (.bool zb)/\Hid (Below w.heap.size w w')):=λW hb=>(hnone W).mono λe w' ⟨h1,h2⟩=>⟨h1,(A0.trans (hb.mono A0.size)).trans (h2.mono (Nat.le_trans A0.size hb.size))⟩
 have NK:Hid (∀x:Nat,x<n->∃g o2,an=some ⟨g,o2,none⟩/\g<w.heap.size/\∀W,Below w.heap.size w W->W.cell? ⟨g,o2+x*5,none⟩=some (.int .i64 (Nt.kindAt ns x))):=λx hx=>hnk x (by omega);have HA:Hid (Below w.heap.size w W0):=A0;have BR:Hid (Below W0.heap.size W0 W0):=Below.refl _ _;clear hH hT hsz hof hnone houts hnk hnu hfr hto hel hop hnum hnn hmm hob hzb ho hr hW0 A0 G0 F0
 by_cases hbad:fr<0∨(n:Int)<=fr∨tt<0∨(n:Int)<=tt∨fr=tt
 ·have HD:Hid (r=false):=by
   show _=_;rw[<-HR.out.1]
   rcases hbad with h|h|h|h|h
   ·exact Nt.twoB_from (by rw[HR.out.2.2.2.2.1,HR.out.2.1];simp[Nt.isNodeB];omega)
   ·exact Nt.twoB_from (by rw[HR.out.2.2.2.2.1,HR.out.2.1];simp[Nt.isNodeB];omega)
   ·exact Nt.twoB_to (by rw[HR.out.2.2.2.2.1,HR.out.2.2.1];simp[Nt.isNodeB];omega)
   ·exact Nt.twoB_to (by rw[HR.out.2.2.2.2.1,HR.out.2.2.1];simp[Nt.isNodeB];omega)
   exact Nt.twoB_same (by rw[HR.out.2.1,HR.out.2.2.1];exact h)
  rw[HD.out];have hc:decide (fr<0)=true∨(decide (fr<0)=false/\decide ((n:Int)<=fr)=true)∨(decide (fr<0)=false/\decide ((n:Int)<=fr)=false/\decide (tt<0)=true)∨(decide (fr<0)=false/\decide ((n:Int)<=fr)=false/\decide (tt<0)=false/\decide ((n:Int)<=tt)=true)∨(decide (fr<0)=false/\decide ((n:Int)<=fr)=false/\decide (tt<0)=false/\decide ((n:Int)<=tt)=false/\(fr==tt)=true):=by simp;omega
  rcases hc with e1|⟨e1,e2⟩|⟨e1,e2,e3⟩|⟨e1,e2,e3,e4⟩|⟨e1,e2,e3,e4,e5⟩
  all_goals
   clear hbad CO CF CN NK HB
   go_enter Tryz.func110,Tryz.ntmps110
   go_wp2;go_ret;rw[HW0.out];exact⟨rfl,HA.out⟩
 have e1:decide (fr<0)=false:=decide_eq_false (by omega);have e2:decide ((n:Int)<=fr)=false:=decide_eq_false (by omega);have e3:decide (tt<0)=false:=decide_eq_false (by omega);have e4:decide ((n:Int)<=tt)=false:=decide_eq_false (by omega);have e5:(fr==tt)=false:=by simp;omega
 have HD:Hid (r=Nt.condB f (Nt.chosenB ns fs f)):=HR.out.1.symm.trans (Nt.twoB_rest (by rw[HR.out.2.2.2.2.1,HR.out.2.1];simp[Nt.isNodeB];omega) (by rw[HR.out.2.2.2.2.1,HR.out.2.2.1];simp[Nt.isNodeB];omega) (by rw[HR.out.2.1,HR.out.2.2.1];omega));obtain⟨x,hx⟩:∃x:Nat,fr=x:=⟨fr.toNat,by omega⟩;subst hx;have hxn:x<n:=by omega
 have e2n:decide (n<=x)=false:=decide_eq_false (by omega);have hx':(x:Int)<n:=by omega
 have hx0:(0:Int)<=x:=by omega
 obtain⟨g,o2,rfl,hg,hkc⟩:=NK.out x hxn;have hkw:=hkc W0 HA.out;have hkz:=hkc w (Below.refl _ w);obtain⟨kx,hkx⟩:=pE (Nt.kindAt ns x);rw[hkx]at hkw hkz
 have HCH:Hid (Nt.chosenB ns fs f=(decide (kx=5)&&decide (2<=o))):=by
  show _=_;rw[Nt.chosenB,HR.out.2.2.2.2.2.2.2,HR.out.2.1,Int.toNat_natCast,hkx]
 have HCD:Hid (∀ch,Nt.condB f ch=if ch=true/\els=false then ob else(ch==els)&&zb):=λch=>by rw[Nt.condB,HR.out.2.2.2.1,HR.out.2.2.2.2.2.1,HR.out.2.2.2.2.2.2.1]
 obtain⟨p0,p1,pf,-⟩:=HB.out W0 BR.out;obtain⟨f0,f1,f2,f3,f4,f5⟩:=Nt.flowBox pf;have KC:Hid (∀W,Below w.heap.size w W->W.cell? ⟨g,o2+x*5,none⟩=some (.int .i64 kx)):=λW hb=>by rw[hkc W hb,hkx]
 clear hbad hkx hkc NK pf
 by_cases h5:kx=5
 rotate_left
 ·have e6:(kx==5)=false:=by simpa using h5
  have e7:(kx !=5)=true:=by simpa using h5
  have HCF:Hid (Nt.chosenB ns fs f=false):=by show _=_;rw[HCH.out,decide_eq_false h5,Bool.false_and]
  cases els
  ·have HD2:Hid (r=zb):=by show _=_;rw[HD.out,HCD.out,HCF.out];simp
   clear HD HCD HCH HCF h5 CO CF
   go_enter Tryz.func110,Tryz.ntmps110
   go_wp2_with fail
   rw[HW0.out];refine Calls.mono (CN.out _ BR.out) ?_;rintro e W3 ⟨rfl,B3⟩;clear f0 f1 f2 f3 f4 f5;go_wp2;go_ret;exact⟨Tk.ret_bool HD2.out.symm,B3.out⟩
  have HD2:Hid (r=false):=by show _=_;rw[HD.out,HCD.out,HCF.out];simp
  clear HD HCD HCH HCF h5 CO CF CN
  go_enter Tryz.func110,Tryz.ntmps110
  go_wp2;go_ret;rw[HW0.out];exact⟨Tk.ret_bool HD2.out.symm,HA.out⟩
 subst h5;have q2:decide ((2:Int)<=o)=decide (2<=o):=decide_eq_decide.2 (by omega);have q3:decide ((o:Int)<2)= !decide (2<=o):=by rw[<-decide_not];exact decide_eq_decide.2 (by omega)
 cases hch:decide (2<=o)<;>cases els<;>rw[hch]at q2 q3
 ·have HD2:Hid (r=zb):=by show _=_;rw[HD.out,HCD.out,HCH.out,hch];simp
  clear HD HCD HCH hch
  go_enter Tryz.func110,Tryz.ntmps110
  go_wp2_with fail
  rw[HW0.out];refine Calls.mono (CO.out W0 BR.out) ?_;rintro e W1 ⟨a1,c1,rfl,B1⟩;clear f0 f1 f2 f3 f4 f5 hkw p0 p1;obtain⟨p0,p1,pf,BW1⟩:=HB.out W1 B1.out;obtain⟨f0,f1,f2,f3,f4,f5⟩:=Nt.flowBox pf;have hkw:=KC.out W1 BW1;have HBW:Hid (Below w.heap.size w W1):=BW1;clear pf BW1
  go_wp2_with fail
  refine Calls.mono (CN.out _ B1.out) ?_;rintro e W3 ⟨rfl,B3⟩;clear f0 f1 f2 f3 f4 f5;go_wp2;go_ret;exact⟨Tk.ret_bool HD2.out.symm,B3.out⟩
 ·have HD2:Hid (r=false):=by show _=_;rw[HD.out,HCD.out,HCH.out,hch];simp
  clear HD HCD HCH hch
  go_enter Tryz.func110,Tryz.ntmps110
  go_wp2_with fail
  rw[HW0.out];refine Calls.mono (CO.out W0 BR.out) ?_;rintro e W1 ⟨a1,c1,rfl,B1⟩;clear f0 f1 f2 f3 f4 f5 hkw p0 p1;obtain⟨p0,p1,pf,BW1⟩:=HB.out W1 B1.out;obtain⟨f0,f1,f2,f3,f4,f5⟩:=Nt.flowBox pf;have hkw:=KC.out W1 BW1;have HBW:Hid (Below w.heap.size w W1):=BW1;clear pf BW1
  go_wp2_with fail
  refine Calls.mono (CO.out W1 B1.out) ?_;rintro e W2 ⟨a2,c2,rfl,B2⟩;clear f0 f1 f2 f3 f4 f5 hkw p0 p1;obtain⟨p0,p1,pf,BW2⟩:=HB.out W2 B2.out;obtain⟨f0,f1,f2,f3,f4,f5⟩:=Nt.flowBox pf;have HBW2:Hid (Below w.heap.size w W2):=BW2;clear pf BW2;go_wp2;go_ret;exact⟨Tk.ret_bool HD2.out.symm,HBW2.out⟩
 ·have HD2:Hid (r=ob):=by show _=_;rw[HD.out,HCD.out,HCH.out,hch];simp
  clear HD HCD HCH hch
  go_enter Tryz.func110,Tryz.ntmps110
  go_wp2_with fail
  rw[HW0.out];refine Calls.mono (CO.out W0 BR.out) ?_;rintro e W1 ⟨a1,c1,rfl,B1⟩;clear f0 f1 f2 f3 f4 f5 hkw p0 p1;obtain⟨p0,p1,pf,BW1⟩:=HB.out W1 B1.out;obtain⟨f0,f1,f2,f3,f4,f5⟩:=Nt.flowBox pf;have hkw:=KC.out W1 BW1;have HBW:Hid (Below w.heap.size w W1):=BW1;clear pf BW1
  go_wp2_with fail
  refine Calls.mono (CF.out _ B1.out) ?_;rintro e W3 ⟨rfl,B3⟩;clear f0 f1 f2 f3 f4 f5;go_wp2;go_ret;exact⟨Tk.ret_bool HD2.out.symm,B3.out⟩
 have HD2:Hid (r=zb):=by show _=_;rw[HD.out,HCD.out,HCH.out,hch];simp
 clear HD HCD HCH hch
 go_enter Tryz.func110,Tryz.ntmps110
 go_wp2_with fail
 rw[HW0.out];refine Calls.mono (CO.out W0 BR.out) ?_;rintro e W1 ⟨a1,c1,rfl,B1⟩;clear f0 f1 f2 f3 f4 f5 hkw p0 p1;obtain⟨p0,p1,pf,BW1⟩:=HB.out W1 B1.out;obtain⟨f0,f1,f2,f3,f4,f5⟩:=Nt.flowBox pf;have hkw:=KC.out W1 BW1;have HBW:Hid (Below w.heap.size w W1):=BW1;clear pf BW1
 go_wp2_with fail
 refine Calls.mono (CO.out W1 B1.out) ?_;rintro e W2 ⟨a2,c2,rfl,B2⟩;clear f0 f1 f2 f3 f4 f5 hkw p0 p1;obtain⟨p0,p1,pf,BW2⟩:=HB.out W2 B2.out;obtain⟨f0,f1,f2,f3,f4,f5⟩:=Nt.flowBox pf;have HBW2:Hid (Below w.heap.size w W2):=BW2;clear pf BW2
 go_wp2_with fail
 refine Calls.mono (CN.out _ B2.out) ?_;rintro e W3 ⟨rfl,B3⟩;clear f0 f1 f2 f3 f4 f5;go_wp2;go_ret;exact⟨Tk.ret_bool HD2.out.symm,B3.out⟩
end Go.Proofs
