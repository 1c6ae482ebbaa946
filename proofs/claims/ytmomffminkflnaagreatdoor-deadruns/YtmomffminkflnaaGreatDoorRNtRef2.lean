import Derived.Test.YtmomffminkflnaaGreatDoorRRqRef2
set_option maxRecDepth 100000
set_option maxHeartbeats 32000000
namespace Go.Proofs
open Go.RowKit Go.Shelf
theorem Tryz.rFirst_any(kd:Int)(a:Option Addr)(c d:Nat)(af:Option Addr)(m cf:Nat)(ns:List Nd)(w:World)(hE:Nt.Nds w w.heap.size d a ns)(hn:ns.length<=100):
  Calls Tryz.prog 95 #[.agg #[.slice a ns.length c, .slice af m cf], .int .i64 kd]w λe w'=>e= .returned(.int .i64(Nt.firstI ns kd))/\Below w.heap.size w w':=by
 rw [Nt.firstI_eq];obtain⟨w1,hw1⟩: ∃x,w.alloc(.cells #[.slice a ns.length c, .slice af m cf]30)=x:=⟨_,rfl⟩;have A1:Below w.heap.size w w1:=by rw [<-hw1];exact(Below.refl _ w).alloc(Nat.le_refl _)_
 obtain⟨n,hnn⟩: ∃n,ns.length=n:=⟨_,rfl⟩;rw [hnn]at hn hw1⊢;obtain⟨r,hr⟩: ∃r,Nt.findI(λx:Nd=>decide(x.kind=kd))ns=r:=⟨_,rfl⟩;rw [hr];have HR:Hid(Nt.findI(λx:Nd=>decide(x.kind=kd))ns=r):=hr;have HE:Hid(Nt.Nds w w.heap.size d a ns/\ns.length=n):=⟨hE,hnn⟩;have H1:Hid(w.alloc(.cells #[.slice a n c, .slice af m cf]30)=w1):=hw1;have HA:Hid(Below w.heap.size w w1):=A1;clear hE hnn hr hw1 A1
 go_enter Tryz.func95,Tryz.ntmps95
 go_wp2;rw [H1.out]
 go_loopg [10]n(λgk s10 wr=> ∃k:Nat,gk+k=n/\s10= .int .i64 k/\Hid(Below w.heap.size w wr/\(ns.take k).any(λx:Nd=>decide(x.kind=kd))=false))
 case atStart=>exact⟨0,by omega,rfl,HA.out,by simp⟩
 case round=>
  obtain⟨k,hk,rfl,HB⟩:=hrel;clear H1 HA
  by_cases hlt:k<n
  rotate_left
  ·have hd:decide((k:Int)<n)=false:=decide_eq_false(by omega)
   go_wp2;go_ret;have:=HB.out.2;rw [List.take_of_length_le(by rw [HE.out.2];omega)]at this;exact⟨Tk.ret_int((Nt.findI_none this).symm.trans HR.out),HB.out.1⟩
  have hd:decide((k:Int)<n)=true:=decide_eq_true(by omega);have hkl:k<ns.length:=by rw [HE.out.2];exact hlt
  obtain⟨q,off,u,rfl,hq,h0,h1,h2,h3,h4,h5⟩:=HE.out.1 k hkl;obtain⟨au,cu,rfl⟩:=h5.shape;obtain⟨nu,hnu⟩: ∃n,ns[k].t.ks.length=n:=⟨_,rfl⟩;rw [hnu]at h4;obtain⟨x0,hx0⟩: ∃x,ns[k].kind=x:=⟨_,rfl⟩;obtain⟨x1,hx1⟩: ∃x,ns[k].a=x:=⟨_,rfl⟩;obtain⟨x2,hx2⟩: ∃x,ns[k].t.op=x:=⟨_,rfl⟩;obtain⟨x3,hx3⟩: ∃x,ns[k].t.num=x:=⟨_,rfl⟩;have hc: ∀o,wr.cell? ⟨q,o,none⟩=w.cell? ⟨q,o,none⟩:=λo=>HB.out.1.cell(p:=⟨q,o,none⟩)hq;have hc0:wr.cell? ⟨q,off+k*5,none⟩=some(.int .i64 x0):=by rw [hc,<-hx0];exact h0
  have hc1:wr.cell? ⟨q,off+k*5+1,none⟩=some(.int .i64 x1):=by rw [hc,<-hx1];exact h1
  have hc2:wr.cell? ⟨q,off+k*5+2,none⟩=some(.int .i64 x2):=by rw [hc,<-hx2];exact h2
  have hc3:wr.cell? ⟨q,off+k*5+3,none⟩=some(.int .i64 x3):=by rw [hc,<-hx3];exact h3
  have hc4:wr.cell? ⟨q,off+k*5+4,none⟩=some(.slice au nu cu):=by rw [hc];exact h4
  have hu:=Tryz.underlying76;have HX:Hid(ns[k].kind=x0):=hx0;have BN:Hid(Below w.heap.size w(wr.alloc(.cells #[.int .i64 x0, .int .i64 x1, .int .i64 x2, .int .i64 x3, .slice au nu cu]76))):=HB.out.1.alloc HB.out.1.size _;clear h0 h1 h2 h3 h4 h5 hc hx0 hx1 hx2 hx3 hnu hq
  by_cases hk2:x0=kd
  ·have e1:(x0==kd)=true:=by simpa using hk2
   have HQ:Hid((λx:Nd=>decide(x.kind=kd))ns[k]=true):=decide_eq_true(HX.out.trans hk2);clear hk2;go_wp2;go_ret;exact⟨Tk.ret_int((Nt.findI_at hkl HB.out.2 HQ.out).symm.trans HR.out),BN.out⟩
  have e1:(x0==kd)=false:=by simpa using hk2
  have HQ:Hid(decide(ns[k].kind=kd)=false):=decide_eq_false(by rw [HX.out];exact hk2);clear hk2;go_wp2;go_roundg(gk-1)
  case measure=>omega
  case rel=>
   refine⟨k+1,by omega,by go_num,BN.out, ?_⟩;rw [Tm.take_snoc _ _ hkl,List.any_append,HB.out.2];simp [HQ.out]
theorem Tryz.rone_plain(k a op num m:Int)(sa:Option Addr)(n cap:Nat)(zb:Bool)(w:World)(hk:(k=1/\m=0)∨(k=2/\m=0)∨(k=5/\m=0)∨(k=6/\m=0)∨(k=7/\m=0)∨(k=3/\m=3)∨(k=8/\m=4))
  (hZ: ∀W,Calls Tryz.prog 119 #[.agg #[.int .i64 op, .int .i64 num, .slice sa n cap]]W λe w'=>e= .returned(.bool zb)/\Below W.heap.size W w'):
  Calls Tryz.prog 93 #[.agg #[.int .i64 k, .int .i64 a, .int .i64 op, .int .i64 num, .slice sa n cap]]w λe w'=>e= .returned(.bool(decide(0<=a)&&decide(a<=m)&&zb))/\Below w.heap.size w w':=by
 have B0:Hid(Below w.heap.size w(w.alloc(.cells #[.int .i64 k, .int .i64 a, .int .i64 op, .int .i64 num, .slice sa n cap]76))):=(Below.refl _ w).alloc(Nat.le_refl _)_;have HZ:Hid _:=hZ;clear hZ
 rcases hk with⟨rfl,rfl⟩|⟨rfl,rfl⟩|⟨rfl,rfl⟩|⟨rfl,rfl⟩|⟨rfl,rfl⟩|⟨rfl,rfl⟩|⟨rfl,rfl⟩
 all_goals
  rcases Int.lt_or_le a 0 with h0|h0
  ·have e0:decide(a<0)=true:=decide_eq_true h0
   have e1:decide(0<=a)=false:=decide_eq_false(by omega);rw [e1];clear h0 e1
   go_enter Tryz.func93,Tryz.ntmps93
   go_wp2;go_ret;exact⟨Tk.ret_bool rfl,B0.out⟩
  have e0:decide(a<0)=false:=decide_eq_false(by omega);have e2:decide(0<=a)=true:=decide_eq_true h0;rw [e2];clear e2
  first
  |(by_cases h1:a<=0;rotate_left;exact(by
     have e1:decide(a<=0)=false:=decide_eq_false h1;rw [e1];clear h0 h1
     go_enter Tryz.func93,Tryz.ntmps93
     go_wp2;go_ret
     exact⟨Tk.ret_bool rfl,B0.out⟩)
    have e1:decide(a<=0)=true:=decide_eq_true h1
    rw [e1])
  |(by_cases h1:a<=3;rotate_left;exact(by
     have e1:decide(a<=3)=false:=decide_eq_false h1;rw [e1];clear h0 h1
     go_enter Tryz.func93,Tryz.ntmps93
     go_wp2;go_ret
     exact⟨Tk.ret_bool rfl,B0.out⟩)
    have e1:decide(a<=3)=true:=decide_eq_true h1
    rw [e1])
  |(by_cases h1:a<=4;rotate_left;exact(by
     have e1:decide(a<=4)=false:=decide_eq_false h1;rw [e1];clear h0 h1
     go_enter Tryz.func93,Tryz.ntmps93
     go_wp2;go_ret
     exact⟨Tk.ret_bool rfl,B0.out⟩)
    have e1:decide(a<=4)=true:=decide_eq_true h1
    rw [e1])
  clear h0 h1
  go_enter Tryz.func93,Tryz.ntmps93
  go_wp2_with fail
  refine Calls.mono(HZ.out _) ?_;rintro e W⟨rfl,hb⟩;have B2:Hid(Below w.heap.size w W):=B0.out.trans(hb.mono B0.out.size);clear hb HZ;go_wp2;go_ret;exact⟨Tk.ret_bool rfl,B2.out⟩
theorem Tryz.rone_other(k a op num:Int)(sa:Option Addr)(n cap:Nat)(w:World)(hk:k<1∨8<k):
  Calls Tryz.prog 93 #[.agg #[.int .i64 k, .int .i64 a, .int .i64 op, .int .i64 num, .slice sa n cap]]w λe w'=>e= .returned(.bool false)/\Below w.heap.size w w':=by
 have B0:Hid(Below w.heap.size w(w.alloc(.cells #[.int .i64 k, .int .i64 a, .int .i64 op, .int .i64 num, .slice sa n cap]76))):=(Below.refl _ w).alloc(Nat.le_refl _)_
 obtain h1|⟨h1,h2⟩:decide(k<1)=true∨(decide(k<1)=false/\decide(8<k)=true):=by simp;omega
 all_goals
  clear hk
  go_enter Tryz.func93,Tryz.ntmps93
  go_wp2;go_ret;exact⟨rfl,B0.out⟩
theorem Tryz.rone_assign(a op num:Int)(sa:Option Addr)(n cap:Nat)(ob:Bool)(w:World)
  (hO: ∀W,Below w.heap.size w W->Calls Tryz.prog 118 #[.agg #[.int .i64 op, .int .i64 num, .slice sa n cap], .int .i64 1]W λe w'=>e= .returned(.bool ob)/\Below W.heap.size W w'):
  Calls Tryz.prog 93 #[.agg #[.int .i64 4, .int .i64 a, .int .i64 op, .int .i64 num, .slice sa n cap]]w λe w'=>e= .returned(.bool(decide(0<=a)&&decide(a<=3)&&ob))/\Below w.heap.size w w':=by
 have A0:Below w.heap.size w(w.alloc(.cells #[.int .i64 4, .int .i64 a, .int .i64 op, .int .i64 num, .slice sa n cap]76)):=(Below.refl _ w).alloc(Nat.le_refl _)_;have HO:Hid _:=hO _ A0;have B0:Hid _:=A0;clear hO A0
 rcases Int.lt_or_le a 0 with h0|h0
 ·have e0:decide(a<0)=true:=decide_eq_true h0
  have HD:Hid((decide(0<=a)&&decide(a<=3)&&ob)=false):=by show _=_;rw [decide_eq_false(by omega)];rfl
  rw [HD.out];clear h0 HO
  go_enter Tryz.func93,Tryz.ntmps93
  go_wp2;go_ret;exact⟨rfl,B0.out⟩
 have e0:decide(a<0)=false:=decide_eq_false(by omega)
 by_cases h3:a<4
 ·have e3:decide(a<4)=true:=decide_eq_true h3
  have HD:Hid((decide(0<=a)&&decide(a<=3)&&ob)=ob):=by show _=_;rw [decide_eq_true h0,decide_eq_true(by omega)];rfl
  rw [HD.out];clear h0 h3
  go_enter Tryz.func93,Tryz.ntmps93
  go_wp2_with fail
  refine Calls.mono HO.out ?_;rintro e W⟨rfl,hb⟩;have B2:Hid(Below w.heap.size w W):=B0.out.trans(hb.mono B0.out.size);clear hb HO;go_wp2;go_ret;exact⟨Tk.ret_bool rfl,B2.out⟩
 have e3:decide(a<4)=false:=decide_eq_false h3;have HD:Hid((decide(0<=a)&&decide(a<=3)&&ob)=false):=by show _=_;rw [decide_eq_true h0,decide_eq_false(by omega)];rfl
 rw [HD.out];clear h0 h3 HO
 go_enter Tryz.func93,Tryz.ntmps93
 go_wp2;go_ret;exact⟨rfl,B0.out⟩
theorem Tryz.rone_any(d:Nat)(x:Nd)(v:Value)(w:World)(hT:Tm.Lies w w.heap.size d v x.t)(hsz:x.t.size<=2147483647):
  Calls Tryz.prog 93 #[.agg #[.int .i64 x.kind, .int .i64 x.a, .int .i64 x.t.op, .int .i64 x.t.num,v]]w λe w'=>e= .returned(.bool(Nt.oneB x))/\Below w.heap.size w w':=by
 obtain⟨a,cap,rfl⟩:=hT.shape
 rcases Nt.kinds x.kind with⟨m,hk⟩|hk|hk
 ·rw [Nt.oneB_plain x m hk]
  exact Tryz.rone_plain x.kind x.a x.t.op x.t.num m a x.t.ks.length cap(Nt.zeroB x.t)w hk(λW=>Tryz.rnone_any x.t a cap W)
 ·rw [Nt.oneB_assign x hk,hk]
  exact Tryz.rone_assign x.a x.t.op x.t.num a x.t.ks.length cap(Nt.ofB x.t 1)w(λW hb=>Tryz.rof_any 1 d x.t(.slice a x.t.ks.length cap)W((hT.below hb).wider hb.size)hsz)
 rw [Nt.oneB_other x hk];exact Tryz.rone_other x.kind x.a x.t.op x.t.num a x.t.ks.length cap w hk
theorem Tryz.rtwo_any(f:Fl)(v:Value)(an:Option Addr)(cn:Nat)(af:Option Addr)(cf d:Nat)(ns:List Nd)(fs:List Fl)(w:World)(hH:Nt.Has w w.heap.size d an af ns fs)(hT:Tm.Lies w w.heap.size d v f.c)(hsz:f.c.size<=2147483647):
  Calls Tryz.prog 94 #[.agg #[.slice an ns.length cn, .slice af fs.length cf], .agg #[.int .i64 f.fr, .int .i64 f.to, .bool f.els, .int .i64 f.c.op, .int .i64 f.c.num,v]]w λe w'=>e= .returned(.bool(Nt.twoB ns fs f))/\Below w.heap.size w w':=by
 obtain⟨au,cu,rfl⟩:=hT.shape;obtain⟨W0,hW0⟩: ∃x,(w.alloc(.cells #[.slice an ns.length cn, .slice af fs.length cf]30)).alloc(.cells #[.int .i64 f.fr, .int .i64 f.to, .bool f.els, .int .i64 f.c.op, .int .i64 f.c.num, .slice au f.c.ks.length cu]78)=x:=⟨_,rfl⟩;have A0:Below w.heap.size w W0:=by rw [<-hW0];exact((Below.refl _ w).alloc(Nat.le_refl _)_).alloc(by simp)_
 have G0:W0.heap[w.heap.size]? =some(.cells #[.slice an ns.length cn, .slice af fs.length cf]30(0,0)):=by rw [<-hW0,Below.heap_alloc _ _ _(by simp)];exact heap_alloc_new w _
 have F0:W0.heap[w.heap.size+1]? =some(.cells #[.int .i64 f.fr, .int .i64 f.to, .bool f.els, .int .i64 f.c.op, .int .i64 f.c.num, .slice au f.c.ks.length cu]78(0,0)):=by
  rw [<-hW0];have:=heap_alloc_new(w.alloc(.cells #[.slice an ns.length cn, .slice af fs.length cf]30))(.cells #[.int .i64 f.fr, .int .i64 f.to, .bool f.els, .int .i64 f.c.op, .int .i64 f.c.num, .slice au f.c.ks.length cu]78);simpa using this
 have hof: ∀W,Below w.heap.size w W->Calls Tryz.prog 118 #[.agg #[.int .i64 f.c.op, .int .i64 f.c.num, .slice au f.c.ks.length cu], .int .i64 2]W λe w'=>e= .returned(.bool(Nt.ofB f.c 2))/\Below W.heap.size W w':=λW hb=>
  Tryz.rof_any 2 d f.c(.slice au f.c.ks.length cu)W((hT.below hb).wider hb.size)hsz
 have hnone: ∀W,Calls Tryz.prog 119 #[.agg #[.int .i64 f.c.op, .int .i64 f.c.num, .slice au f.c.ks.length cu]]W λe w'=>e= .returned(.bool(Nt.zeroB f.c))/\Below W.heap.size W w':=λW=>Tryz.rnone_any f.c au cu W
 have houts: ∀W,Below w.heap.size w W->Calls Tryz.prog 120 #[.agg #[.slice an ns.length cn, .slice af fs.length cf], .int .i64 f.fr]W λe w'=> ∃a c,e= .returned(.slice a(Nt.outsN fs f.fr)c)/\Hid(Below W.heap.size W w'):=λW hb=>
  (Tryz.rOuts_any f.fr an ns.length cn af cf d fs W((hH.fls.below hb).wider hb.size)hH.flen).mono λe w' h=>by
   obtain⟨x,hx,ho,hbb⟩:=h;obtain⟨a,c,rfl⟩:=Rk.own_shape ho;rw [Nt.outsL_len]at hx;exact⟨a,c,hx,hbb⟩
 have hnk: ∀x:Nat,x<ns.length-> ∃g o2,an=some⟨g,o2,none⟩/\g<w.heap.size/\ ∀W,Below w.heap.size w W->W.cell? ⟨g,o2+x*5,none⟩=some(.int .i64(Nt.kindAt ns x)):=λx hx=>by
  obtain⟨g,o2,u',e1,e2,e3,_⟩:=hH.nds x hx;exact⟨g,o2,e1,e2,λW hb=>by rw [hb.cell(p:=⟨g,o2+x*5,none⟩)e2,Nt.kindAt_get ns x hx];exact e3⟩
 have hol:Nt.outsN fs f.fr<=100:=by unfold Nt.outsN;have:=List.countP_le_length(l:=fs)(p:=λg=>decide(g.fr=f.fr));have:=hH.flen;omega
 have hnl:=hH.nlen;obtain⟨nu,hnu⟩: ∃n,f.c.ks.length=n:=⟨_,rfl⟩;obtain⟨fr,hfr⟩: ∃x,f.fr=x:=⟨_,rfl⟩;obtain⟨tt,hto⟩: ∃x,f.to=x:=⟨_,rfl⟩;obtain⟨els,hel⟩: ∃x,f.els=x:=⟨_,rfl⟩;obtain⟨op,hop⟩: ∃x,f.c.op=x:=⟨_,rfl⟩;obtain⟨num,hnum⟩: ∃x,f.c.num=x:=⟨_,rfl⟩;obtain⟨n,hnn⟩: ∃n,ns.length=n:=⟨_,rfl⟩;obtain⟨m,hmm⟩: ∃n,fs.length=n:=⟨_,rfl⟩;obtain⟨ob,hob⟩: ∃b,Nt.ofB f.c 2=b:=⟨_,rfl⟩;obtain⟨zb,hzb⟩: ∃b,Nt.zeroB f.c=b:=⟨_,rfl⟩;obtain⟨o,ho⟩: ∃b,Nt.outsN fs f.fr=b:=⟨_,rfl⟩;obtain⟨r,hr⟩: ∃r,Nt.twoB ns fs f=r:=⟨_,rfl⟩;rw [hop,hnum,hnu,hob]at hof;rw [hop,hnum,hnu,hzb]at hnone;rw [ho]at hol houts;rw [hfr,hnn,hmm]at houts;rw [hfr,hto,hel,hop,hnum,hnu,hnn,hmm]at hW0;rw [hfr,hto,hel,hop,hnum,hnu]at F0;rw [hnn,hmm]at G0;rw [hr,hfr,hto,hel,hop,hnum,hnu,hnn,hmm];rw [hnn]at hnl
 have HB:Hid(∀W,Below W0.heap.size W0 W->W.cell? ⟨w.heap.size,0,none⟩=some(.slice an n cn)/\W.cell? ⟨w.heap.size,1,none⟩=some(.slice af m cf)/\W.heap[w.heap.size+1]? =some(.cells #[.int .i64 fr, .int .i64 tt, .bool els, .int .i64 op, .int .i64 num, .slice au nu cu]78(0,0))/\Below w.heap.size w W):=λW hb=>by
  obtain⟨p0,p1⟩:=Nt.box2((hb.block _(Nt.lt_of G0)).trans G0);exact⟨p0,p1,(hb.block _(Nt.lt_of F0)).trans F0,A0.trans(hb.mono A0.size)⟩
 have HR:Hid(Nt.twoB ns fs f=r/\f.fr=fr/\f.to=tt/\f.els=els/\ns.length=n/\Nt.ofB f.c 2=ob/\Nt.zeroB f.c=zb/\Nt.outsN fs f.fr=o):=⟨hr,hfr,hto,hel,hnn,hob,hzb,ho⟩;have HW0:Hid((w.alloc(.cells #[.slice an n cn, .slice af m cf]30)).alloc(.cells #[.int .i64 fr, .int .i64 tt, .bool els, .int .i64 op, .int .i64 num, .slice au nu cu]78)=W0):=hW0;have CO:Hid(∀W,Below W0.heap.size W0 W->Calls Tryz.prog 120 #[.agg #[.slice an n cn, .slice af m cf], .int .i64 fr]W λe w'=> ∃a c,e= .returned(.slice a o c)/\Hid(Below W0.heap.size W0 w')):=λW hb=>(houts W(A0.trans(hb.mono A0.size))).mono λe w'⟨a,c,h1,h2⟩=>⟨a,c,h1,hb.trans(h2.out.mono hb.size)⟩;have CF:Hid(∀W,Below W0.heap.size W0 W->Calls Tryz.prog 118 #[.agg #[.int .i64 op, .int .i64 num, .slice au nu cu], .int .i64 2]W λe w'=>e= .returned(.bool ob)/\Hid(Below w.heap.size w w')):=λW hb=>(hof W(A0.trans(hb.mono A0.size))).mono λe w'⟨h1,h2⟩=>⟨h1,(A0.trans(hb.mono A0.size)).trans(h2.mono(Nat.le_trans A0.size hb.size))⟩;have CN:Hid(∀W,Below W0.heap.size W0 W->Calls Tryz.prog 119 #[.agg #[.int .i64 op, .int .i64 num, .slice au nu cu]]W λe w'=>e= .returned(.bool zb)/\Hid(Below w.heap.size w w')):=λW hb=>(hnone W).mono λe w'⟨h1,h2⟩=>⟨h1,(A0.trans(hb.mono A0.size)).trans(h2.mono(Nat.le_trans A0.size hb.size))⟩
 have NK:Hid(∀x:Nat,x<n-> ∃g o2,an=some⟨g,o2,none⟩/\g<w.heap.size/\ ∀W,Below w.heap.size w W->W.cell? ⟨g,o2+x*5,none⟩=some(.int .i64(Nt.kindAt ns x))):=λx hx=>hnk x(by omega);have HA:Hid(Below w.heap.size w W0):=A0;have BR:Hid(Below W0.heap.size W0 W0):=Below.refl _ _;clear hH hT hsz hof hnone houts hnk hnu hfr hto hel hop hnum hnn hmm hob hzb ho hr hW0 A0 G0 F0
 by_cases hbad:fr<0∨(n:Int)<=fr∨tt<0∨(n:Int)<=tt∨fr=tt
 ·have HD:Hid(r=false):=by
   show _=_;rw [<-HR.out.1]
   rcases hbad with h|h|h|h|h
   ·exact Nt.twoB_from(by rw [HR.out.2.2.2.2.1,HR.out.2.1];simp [Nt.isNodeB];omega)
   ·exact Nt.twoB_from(by rw [HR.out.2.2.2.2.1,HR.out.2.1];simp [Nt.isNodeB];omega)
   ·exact Nt.twoB_to(by rw [HR.out.2.2.2.2.1,HR.out.2.2.1];simp [Nt.isNodeB];omega)
   ·exact Nt.twoB_to(by rw [HR.out.2.2.2.2.1,HR.out.2.2.1];simp [Nt.isNodeB];omega)
   exact Nt.twoB_same(by rw [HR.out.2.1,HR.out.2.2.1];exact h)
  rw [HD.out];have hc:decide(fr<0)=true∨(decide(fr<0)=false/\decide((n:Int)<=fr)=true)∨(decide(fr<0)=false/\decide((n:Int)<=fr)=false/\decide(tt<0)=true)∨(decide(fr<0)=false/\decide((n:Int)<=fr)=false/\decide(tt<0)=false/\decide((n:Int)<=tt)=true)∨(decide(fr<0)=false/\decide((n:Int)<=fr)=false/\decide(tt<0)=false/\decide((n:Int)<=tt)=false/\(fr==tt)=true):=by simp;omega
  rcases hc with e1|⟨e1,e2⟩|⟨e1,e2,e3⟩|⟨e1,e2,e3,e4⟩|⟨e1,e2,e3,e4,e5⟩
  all_goals
   clear hbad CO CF CN NK HB
   go_enter Tryz.func94,Tryz.ntmps94
   go_wp2;go_ret;rw [HW0.out];exact⟨rfl,HA.out⟩
 have e1:decide(fr<0)=false:=decide_eq_false(by omega);have e2:decide((n:Int)<=fr)=false:=decide_eq_false(by omega);have e3:decide(tt<0)=false:=decide_eq_false(by omega);have e4:decide((n:Int)<=tt)=false:=decide_eq_false(by omega);have e5:(fr==tt)=false:=by simp;omega
 have HD:Hid(r=Nt.condB f(Nt.chosenB ns fs f)):=HR.out.1.symm.trans(Nt.twoB_rest(by rw [HR.out.2.2.2.2.1,HR.out.2.1];simp [Nt.isNodeB];omega)(by rw [HR.out.2.2.2.2.1,HR.out.2.2.1];simp [Nt.isNodeB];omega)(by rw [HR.out.2.1,HR.out.2.2.1];omega));obtain⟨x,hx⟩: ∃x:Nat,fr=x:=⟨fr.toNat,by omega⟩;subst hx;have hxn:x<n:=by omega
 have e2n:decide(n<=x)=false:=decide_eq_false(by omega);have hx':(x:Int)<n:=by omega
 have hx0:(0:Int)<=x:=by omega
 obtain⟨g,o2,rfl,hg,hkc⟩:=NK.out x hxn;have hkw:=hkc W0 HA.out;have hkz:=hkc w(Below.refl _ w);obtain⟨kx,hkx⟩: ∃z,Nt.kindAt ns x=z:=⟨_,rfl⟩;rw [hkx]at hkw hkz
 have HCH:Hid(Nt.chosenB ns fs f=(decide(kx=5)&&decide(2<=o))):=by
  show _=_;rw [Nt.chosenB,HR.out.2.2.2.2.2.2.2,HR.out.2.1,Int.toNat_natCast,hkx]
 have HCD:Hid(∀ch,Nt.condB f ch=if ch=true/\els=false then ob else(ch==els)&&zb):=λch=>by rw [Nt.condB,HR.out.2.2.2.1,HR.out.2.2.2.2.2.1,HR.out.2.2.2.2.2.2.1]
 obtain⟨p0,p1,pf,-⟩:=HB.out W0 BR.out;obtain⟨f0,f1,f2,f3,f4,f5⟩:=Nt.flowBox pf;have KC:Hid(∀W,Below w.heap.size w W->W.cell? ⟨g,o2+x*5,none⟩=some(.int .i64 kx)):=λW hb=>by rw [hkc W hb,hkx]
 clear hbad hkx hkc NK pf
 by_cases h5:kx=5
 rotate_left
 ·have e6:(kx==5)=false:=by simpa using h5
  have e7:(kx !=5)=true:=by simpa using h5
  have HCF:Hid(Nt.chosenB ns fs f=false):=by show _=_;rw [HCH.out,decide_eq_false h5,Bool.false_and]
  cases els
  ·have HD2:Hid(r=zb):=by show _=_;rw [HD.out,HCD.out,HCF.out];simp
   clear HD HCD HCH HCF h5 CO CF
   go_enter Tryz.func94,Tryz.ntmps94
   go_wp2_with fail
   rw [HW0.out];refine Calls.mono(CN.out _ BR.out) ?_;rintro e W3⟨rfl,B3⟩;clear f0 f1 f2 f3 f4 f5;go_wp2;go_ret;exact⟨Tk.ret_bool HD2.out.symm,B3.out⟩
  have HD2:Hid(r=false):=by show _=_;rw [HD.out,HCD.out,HCF.out];simp
  clear HD HCD HCH HCF h5 CO CF CN
  go_enter Tryz.func94,Tryz.ntmps94
  go_wp2;go_ret;rw [HW0.out];exact⟨Tk.ret_bool HD2.out.symm,HA.out⟩
 subst h5;have q2:decide((2:Int)<=o)=decide(2<=o):=decide_eq_decide.2(by omega);have q3:decide((o:Int)<2)= !decide(2<=o):=by rw [<-decide_not];exact decide_eq_decide.2(by omega)
 cases hch:decide(2<=o)<;>cases els<;>rw [hch]at q2 q3
 ·have HD2:Hid(r=zb):=by show _=_;rw [HD.out,HCD.out,HCH.out,hch];simp
  clear HD HCD HCH hch
  go_enter Tryz.func94,Tryz.ntmps94
  go_wp2_with fail
  rw [HW0.out];refine Calls.mono(CO.out W0 BR.out) ?_;rintro e W1⟨a1,c1,rfl,B1⟩;clear f0 f1 f2 f3 f4 f5 hkw p0 p1;obtain⟨p0,p1,pf,BW1⟩:=HB.out W1 B1.out;obtain⟨f0,f1,f2,f3,f4,f5⟩:=Nt.flowBox pf;have hkw:=KC.out W1 BW1;have HBW:Hid(Below w.heap.size w W1):=BW1;clear pf BW1
  go_wp2_with fail
  refine Calls.mono(CN.out _ B1.out) ?_;rintro e W3⟨rfl,B3⟩;clear f0 f1 f2 f3 f4 f5;go_wp2;go_ret;exact⟨Tk.ret_bool HD2.out.symm,B3.out⟩
 ·have HD2:Hid(r=false):=by show _=_;rw [HD.out,HCD.out,HCH.out,hch];simp
  clear HD HCD HCH hch
  go_enter Tryz.func94,Tryz.ntmps94
  go_wp2_with fail
  rw [HW0.out];refine Calls.mono(CO.out W0 BR.out) ?_;rintro e W1⟨a1,c1,rfl,B1⟩;clear f0 f1 f2 f3 f4 f5 hkw p0 p1;obtain⟨p0,p1,pf,BW1⟩:=HB.out W1 B1.out;obtain⟨f0,f1,f2,f3,f4,f5⟩:=Nt.flowBox pf;have hkw:=KC.out W1 BW1;have HBW:Hid(Below w.heap.size w W1):=BW1;clear pf BW1
  go_wp2_with fail
  refine Calls.mono(CO.out W1 B1.out) ?_;rintro e W2⟨a2,c2,rfl,B2⟩;clear f0 f1 f2 f3 f4 f5 hkw p0 p1;obtain⟨p0,p1,pf,BW2⟩:=HB.out W2 B2.out;obtain⟨f0,f1,f2,f3,f4,f5⟩:=Nt.flowBox pf;have HBW2:Hid(Below w.heap.size w W2):=BW2;clear pf BW2;go_wp2;go_ret;exact⟨Tk.ret_bool HD2.out.symm,HBW2.out⟩
 ·have HD2:Hid(r=ob):=by show _=_;rw [HD.out,HCD.out,HCH.out,hch];simp
  clear HD HCD HCH hch
  go_enter Tryz.func94,Tryz.ntmps94
  go_wp2_with fail
  rw [HW0.out];refine Calls.mono(CO.out W0 BR.out) ?_;rintro e W1⟨a1,c1,rfl,B1⟩;clear f0 f1 f2 f3 f4 f5 hkw p0 p1;obtain⟨p0,p1,pf,BW1⟩:=HB.out W1 B1.out;obtain⟨f0,f1,f2,f3,f4,f5⟩:=Nt.flowBox pf;have hkw:=KC.out W1 BW1;have HBW:Hid(Below w.heap.size w W1):=BW1;clear pf BW1
  go_wp2_with fail
  refine Calls.mono(CF.out _ B1.out) ?_;rintro e W3⟨rfl,B3⟩;clear f0 f1 f2 f3 f4 f5;go_wp2;go_ret;exact⟨Tk.ret_bool HD2.out.symm,B3.out⟩
 have HD2:Hid(r=zb):=by show _=_;rw [HD.out,HCD.out,HCH.out,hch];simp
 clear HD HCD HCH hch
 go_enter Tryz.func94,Tryz.ntmps94
 go_wp2_with fail
 rw [HW0.out];refine Calls.mono(CO.out W0 BR.out) ?_;rintro e W1⟨a1,c1,rfl,B1⟩;clear f0 f1 f2 f3 f4 f5 hkw p0 p1;obtain⟨p0,p1,pf,BW1⟩:=HB.out W1 B1.out;obtain⟨f0,f1,f2,f3,f4,f5⟩:=Nt.flowBox pf;have hkw:=KC.out W1 BW1;have HBW:Hid(Below w.heap.size w W1):=BW1;clear pf BW1
 go_wp2_with fail
 refine Calls.mono(CO.out W1 B1.out) ?_;rintro e W2⟨a2,c2,rfl,B2⟩;clear f0 f1 f2 f3 f4 f5 hkw p0 p1;obtain⟨p0,p1,pf,BW2⟩:=HB.out W2 B2.out;obtain⟨f0,f1,f2,f3,f4,f5⟩:=Nt.flowBox pf;have HBW2:Hid(Below w.heap.size w W2):=BW2;clear pf BW2
 go_wp2_with fail
 refine Calls.mono(CN.out _ B2.out) ?_;rintro e W3⟨rfl,B3⟩;clear f0 f1 f2 f3 f4 f5;go_wp2;go_ret;exact⟨Tk.ret_bool HD2.out.symm,B3.out⟩
theorem Nt.count_both(p q:Fl->Bool)(fs:List Fl):((List.range fs.length).filter λk=>((fs[k]?.map p).getD false)).countP(λk=>((fs[k]?.map q).getD false))=fs.countP λf=>p f&&q f:=by
 rw [List.countP_filter,List.countP_eq_length_filter,<-Nt.filter_len]
 congr 1
 refine List.filter_congr λk hk=> ?_;rw [List.getElem?_eq_getElem(List.mem_range.1 hk)];simp [Bool.and_comm]
def Nt.elsAt(fs:List Fl)(k:Nat):Bool:=((fs[k]?.map Fl.els).getD false)
def Nt.othAt(ns:List Nd)(fs:List Fl)(k:Nat):Bool:=((fs[k]?.map λf=> !decide(Nt.kindAt ns f.to.toNat=8)).getD false)
theorem Nt.elses_outs(fs:List Fl)(i:Int):(Nt.outsL fs i).countP(Nt.elsAt fs)=Nt.elsesN fs i:=by
 rw [Nt.outsL_eq];exact Nt.count_both(λf=>decide(f.fr=i))Fl.els fs
theorem Nt.others_outs(ns:List Nd)(fs:List Fl)(i:Int):(Nt.outsL fs i).countP(Nt.othAt ns fs)=Nt.othersN ns fs i:=by
 rw [Nt.outsL_eq];exact Nt.count_both(λf=>decide(f.fr=i))(λf=> !decide(Nt.kindAt ns f.to.toNat=8))fs
theorem Nt.outs_lt(fs:List Fl)(i:Int)(j:Nat)(h:j<(Nt.outsL fs i).length):(Nt.outsL fs i)[j]<fs.length:=by
 have:=List.getElem_mem h;unfold Nt.outsL at this;exact List.mem_range.1(List.mem_filter.1 this).1
theorem Nt.own_cell {w:World} {B:Nat} {v:Value} {l:List Nat} (h:w.ownsRow B 3 1 v l.length(Rk.nums l)): ∃a c,v= .slice a l.length c/\ ∀j(hj:j<l.length),∃g,a=some⟨g,0,none⟩/\g<w.heap.size/\w.cell? ⟨g,j,none⟩=some(.int .i64 l[j]):=by
 rcases h.2 with⟨hv,hn⟩|⟨g,cap,cur,hv,_,hg,h1,_,_,h2⟩
 ·exact⟨none,0,by rw [hv,hn],λj hj=>by omega⟩
 refine⟨_,_,hv,λj hj=>⟨g,rfl,(Array.getElem?_eq_some_iff.1 hg).1, ?_⟩⟩
 have:cur[j]? =some(.int .i64 l[j]):=by
  have h3:(cur.toList.take(l.length*1))[j]? =(Rk.nums l)[j]? :=by rw [h2]
  rw [List.getElem?_take_of_lt(by omega)]at h3;rw [<-Array.getElem?_toList,h3];simp [Rk.nums,hj]
 unfold World.cell?;rw [hg];exact this
theorem Tryz.rthree_any(i:Nat)(an:Option Addr)(cn:Nat)(af:Option Addr)(cf d:Nat)(ns:List Nd)(fs:List Fl)(w:World)(hH:Nt.Has w w.heap.size d an af ns fs)(hto: ∀f,f∈fs->0<=f.to/\f.to<ns.length)(hi:i<ns.length):
  Calls Tryz.prog 96 #[.agg #[.slice an ns.length cn, .slice af fs.length cf], .int .i64 i]w λe w'=>e= .returned(.bool(Nt.threeB ns fs i))/\Below w.heap.size w w':=by
 obtain⟨W0,hW0⟩: ∃x,w.alloc(.cells #[.slice an ns.length cn, .slice af fs.length cf]30)=x:=⟨_,rfl⟩;have A0:Below w.heap.size w W0:=by rw [<-hW0];exact(Below.refl _ w).alloc(Nat.le_refl _)_
 have G0:W0.heap[w.heap.size]? =some(.cells #[.slice an ns.length cn, .slice af fs.length cf]30(0,0)):=by rw [<-hW0];exact heap_alloc_new w _
 have hins: ∀W,Below W0.heap.size W0 W->Calls Tryz.prog 121 #[.agg #[.slice an ns.length cn, .slice af fs.length cf], .int .i64 i]W λe w'=> ∃a c,e= .returned(.slice a(Nt.insN fs i)c)/\Hid(Below W0.heap.size W0 w'):=λW hb=>by
  have hbw:=A0.trans(hb.mono A0.size)
  exact(Tryz.rIns_any i an ns.length cn af cf d fs W((hH.fls.below hbw).wider hbw.size)hH.flen).mono λe w' h=>by
   obtain⟨x,hx,ho,hbb⟩:=h;obtain⟨a,c,rfl⟩:=Rk.own_shape ho;rw [Nt.insL_len]at hx;exact⟨a,c,hx,hb.trans(hbb.mono hb.size)⟩
 have houts: ∀W,Below W0.heap.size W0 W->Calls Tryz.prog 120 #[.agg #[.slice an ns.length cn, .slice af fs.length cf], .int .i64 i]W λe w'=> ∃a c,e= .returned(.slice a(Nt.outsL fs i).length c)/\Hid(Below W0.heap.size W0 w'/\ ∀j x,(Nt.outsL fs i)[j]? =some x-> ∃g,a=some⟨g,0,none⟩/\g<w'.heap.size/\w'.cell? ⟨g,j,none⟩=some(.int .i64((x:Nat):Int))):=λW hb=>by
  have hbw:=A0.trans(hb.mono A0.size)
  exact(Tryz.rOuts_any i an ns.length cn af cf d fs W((hH.fls.below hbw).wider hbw.size)hH.flen).mono λe w' h=>by
   obtain⟨x,hx,ho,hbb⟩:=h;obtain⟨a,c,rfl,hcs⟩:=Nt.own_cell ho;refine⟨a,c,hx,hb.trans(hbb.mono hb.size),λj x hjx=> ?_⟩;obtain⟨hj,rfl⟩:=List.getElem?_eq_some_iff.1 hjx;exact hcs j hj
 have hnk: ∀x:Nat,x<ns.length-> ∃g o2,an=some⟨g,o2,none⟩/\g<w.heap.size/\ ∀W,Below w.heap.size w W->W.cell? ⟨g,o2+x*5,none⟩=some(.int .i64(Nt.kindAt ns x)):=λx hx=>by
  obtain⟨g,o2,u',e1,e2,e3,_⟩:=hH.nds x hx;exact⟨g,o2,e1,e2,λW hb=>by rw [hb.cell(p:=⟨g,o2+x*5,none⟩)e2,Nt.kindAt_get ns x hx];exact e3⟩
 have hfk: ∀k:Nat,k<fs.length-> ∃g o2 x,af=some⟨g,o2,none⟩/\g<w.heap.size/\x<ns.length/\Nt.othAt ns fs k= !decide(Nt.kindAt ns x=8)/\ ∀W,Below w.heap.size w W->W.cell? ⟨g,o2+k*6+1,none⟩=some(.int .i64((x:Nat):Int))/\W.cell? ⟨g,o2+k*6+2,none⟩=some(.bool(Nt.elsAt fs k)):=λk hk=>by
  obtain⟨g,o2,u',e1,e2,e3,e4,e5,_⟩:=hH.fls k hk;have ht:=hto _(List.getElem_mem hk);refine⟨g,o2,fs[k].to.toNat,e1,e2,by omega,by simp [Nt.othAt,List.getElem?_eq_getElem hk],λW hb=>⟨?_, ?_⟩⟩
  ·rw [hb.cell(p:=⟨g,o2+k*6+1,none⟩)e2,Int.toNat_of_nonneg ht.1];exact e4
  rw [hb.cell(p:=⟨g,o2+k*6+2,none⟩)e2,Nt.elsAt,List.getElem?_eq_getElem hk];exact e5
 have hbd:Nt.insN fs i<=100/\(Nt.outsL fs i).length<=100:=by
  have:=hH.flen;rw [Nt.outsL_len];unfold Nt.insN Nt.outsN;exact⟨Nat.le_trans List.countP_le_length this,Nat.le_trans List.countP_le_length this⟩
 have hfl:=hH.flen;have hnl:=hH.nlen;have hoL: ∀j(h:j<(Nt.outsL fs i).length),(Nt.outsL fs i)[j]<fs.length:=Nt.outs_lt fs i
 have hthree:Nt.threeB ns fs i=Nt.joinB(Nt.kindAt ns i)(Nt.insN fs i)(Nt.outsL fs i).length((Nt.outsL fs i).countP(Nt.elsAt fs))((Nt.outsL fs i).countP(Nt.othAt ns fs)):=by
  rw [Nt.elses_outs,Nt.others_outs,Nt.outsL_len];rfl
 obtain⟨L,hL⟩: ∃l,Nt.outsL fs i=l:=⟨_,rfl⟩;obtain⟨a,ha⟩: ∃l,Nt.insN fs i=l:=⟨_,rfl⟩;obtain⟨k,hk⟩: ∃l,Nt.kindAt ns i=l:=⟨_,rfl⟩;obtain⟨n,hnn⟩: ∃n,ns.length=n:=⟨_,rfl⟩;obtain⟨m,hmm⟩: ∃n,fs.length=n:=⟨_,rfl⟩;obtain⟨r,hr⟩: ∃r,Nt.threeB ns fs i=r:=⟨_,rfl⟩;rw [hL,ha,hk,hr]at hthree;rw [ha]at hins;simp only [hL]at houts hoL;rw [hL,ha]at hbd;obtain⟨b,hb⟩: ∃l,L.length=l:=⟨_,rfl⟩;rw [hb]at houts hbd hthree;rw [hnn,hmm]at hins houts hW0 G0;rw [hmm]at hfl;rw [hnn]at hnl hi;rw [hr,hnn,hmm];have CI:Hid _:=hins;have CO:Hid _:=houts;have NK:Hid(∀x:Nat,x<n-> ∃g o2,an=some⟨g,o2,none⟩/\g<w.heap.size/\ ∀W,Below w.heap.size w W->W.cell? ⟨g,o2+x*5,none⟩=some(.int .i64(Nt.kindAt ns x))):=λx hx=>hnk x(by omega)
 have FK:Hid(∀k:Nat,k<m-> ∃g o2 x,af=some⟨g,o2,none⟩/\g<w.heap.size/\x<n/\Nt.othAt ns fs k= !decide(Nt.kindAt ns x=8)/\ ∀W,Below w.heap.size w W->W.cell? ⟨g,o2+k*6+1,none⟩=some(.int .i64((x:Nat):Int))/\W.cell? ⟨g,o2+k*6+2,none⟩=some(.bool(Nt.elsAt fs k))):=λk hk=>by
  obtain⟨g,o2,x,h1,h2,h3,h4⟩:=hfk k(by omega);exact⟨g,o2,x,h1,h2,by omega,h4⟩
 have HX:Hid(∀W,Below W0.heap.size W0 W->W.cell? ⟨w.heap.size,0,none⟩=some(.slice an n cn)/\W.cell? ⟨w.heap.size,1,none⟩=some(.slice af m cf)/\Below w.heap.size w W):=λW hb=>by
  obtain⟨p0,p1⟩:=Nt.box2((hb.block _(Nt.lt_of G0)).trans G0);exact⟨p0,p1,A0.trans(hb.mono A0.size)⟩
 have HL:Hid((∀j(h:j<L.length),L[j]<m)/\L.length=b/\Nt.kindAt ns i=k):=⟨λj h=>by have:=hoL j h;omega,hb,hk⟩;have HT:Hid(r=Nt.joinB k a b(L.countP(Nt.elsAt fs))(L.countP(Nt.othAt ns fs))):=hthree;have HW0:Hid(w.alloc(.cells #[.slice an n cn, .slice af m cf]30)=W0):=hW0;have BR:Hid(Below W0.heap.size W0 W0):=Below.refl _ _;have hi':(i:Int)<n:=by omega
 have hi0:(0:Int)<=i:=by omega
 obtain⟨hba,hbb⟩:=hbd;have HWL:Hid(w.heap.size<W0.heap.size):=Nt.lt_of G0;clear hH hto hins houts hnk hfk hoL hthree hL ha hk hnn hmm hr hb hW0 A0 G0
 go_enter Tryz.func96,Tryz.ntmps96
 go_wp2_with fail
 rw [HW0.out];refine Calls.mono(CI.out W0 BR.out) ?_;rintro e W1⟨a1,c1,rfl,B1⟩;obtain⟨p0,p1,-⟩:=HX.out W1 B1.out;clear CI HW0
 go_wp2_with fail
 refine Calls.mono(CO.out W1 B1.out) ?_;rintro e W2⟨a2,c2,rfl,B2⟩;clear CO p0 p1;go_wp2
 go_loopg [8,9,11,23]b(λgk s8 s9 _ s23 wr=> ∃(j el ot:Nat),gk+j=b/\s23= .int .i64 j/\s8= .int .i64 el/\s9= .int .i64 ot/\el<=j/\ot<=j/\Hid(Below w.heap.size w wr/\Below W2.heap.size W2 wr/\(L.take j).countP(Nt.elsAt fs)=el/\(L.take j).countP(Nt.othAt ns fs)=ot))
 case atStart=>exact⟨0,0,0,by omega,rfl,rfl,rfl,Nat.le_refl _,Nat.le_refl _,(HX.out W2 B2.out.1).2.2,Below.refl _ _,by simp,by simp⟩
 case round=>
  obtain⟨j,el,ot,hj,rfl,rfl,rfl,he,ho,HI⟩:=hrel;have hwbx:Below W0.heap.size W0 wr:=B2.out.1.trans(HI.out.2.1.mono B2.out.1.size);obtain⟨p0,p1,-⟩:=HX.out wr hwbx;clear hwbx
  by_cases hlt:j<b
  ·have hd:decide((j:Int)<b)=true:=decide_eq_true(by omega)
   have hjL:j<L.length:=by rw [HL.out.2.1];exact hlt
   obtain⟨gq,rfl,hgq,hcq⟩:=B2.out.2 j L[j](List.getElem?_eq_getElem hjL);have hkm:=HL.out.1 j hjL;obtain⟨kk,hkk⟩: ∃z,L[j]=z:=⟨_,rfl⟩;rw [hkk]at hcq hkm;have hcw:wr.cell? ⟨gq,j,none⟩=some(.int .i64 kk):=by rw [HI.out.2.1.cell(p:=⟨gq,j,none⟩)hgq];exact hcq
   obtain⟨g,o2,x,rfl,hg,hx,hoth,hcf⟩:=FK.out kk hkm;obtain⟨q1,q2⟩:=hcf wr HI.out.1;obtain⟨gn,on,rfl,hgn,hkc⟩:=NK.out x hx;have q3:=hkc wr HI.out.1;obtain⟨kx,hkx⟩: ∃z,Nt.kindAt ns x=z:=⟨_,rfl⟩;obtain⟨ev,hev⟩: ∃z,Nt.elsAt fs kk=z:=⟨_,rfl⟩;rw [hkx]at q3 hoth;rw [hev]at q2;have hkm':(kk:Int)<m:=by omega
   have hkk0:(0:Int)<=kk:=by omega
   have hx':(x:Int)<n:=by omega
   have hx0:(0:Int)<=x:=by omega
   have hwe:IntKind.i64.wrap((el:Int)+1)=((el+1:Nat):Int):=by rw [IntKind.wrap_i64];omega
   have hwo:IntKind.i64.wrap((ot:Int)+1)=((ot+1:Nat):Int):=by rw [IntKind.wrap_i64];omega
   have HE2:Hid((L.take(j+1)).countP(Nt.elsAt fs)=el+if ev=true then 1 else 0):=by
    show _=_;rw [Tm.take_snoc _ _ hjL,List.countP_append,HI.out.2.2.1,List.countP_singleton,hkk,hev]
   have HO2:Hid((L.take(j+1)).countP(Nt.othAt ns fs)=ot+if(!decide(kx=8))=true then 1 else 0):=by
    show _=_;rw [Tm.take_snoc _ _ hjL,List.countP_append,HI.out.2.2.2,List.countP_singleton,hkk,hoth]
   have BD:Hid(∀q,Below w.heap.size w(wr.drewN q)/\Below W2.heap.size W2(wr.drewN q)):=λq=>⟨Tk.below_drewN HI.out.1 q,Tk.below_drewN HI.out.2.1 q⟩;have hgw:gn<wr.heap.size:=by have:=HI.out.1.size;omega
   clear hcq hkk hoth hcf hkc hkx hev hgq
   by_cases h8:kx=8
   ·have e8:(kx !=8)=false:=by simpa using h8
    rw [decide_eq_true h8]at HO2;clear h8
    cases ev
    ·go_upto_region 11 with fail
     go_quiet(fail)
     go_wp2;go_roundg(gk-1)
     case measure=>omega
     case rel=>exact⟨j+1,el,ot,by omega,by go_num,rfl,rfl,by omega,by omega,(BD.out _).1,(BD.out _).2,by simpa using HE2.out,by simpa using HO2.out⟩
    go_upto_region 11 with fail
    go_quiet(fail)
    go_wp2;go_roundg(gk-1)
    case measure=>omega
    case rel=>exact⟨j+1,el+1,ot,by omega,by go_num,by go_num,rfl,by omega,by omega,(BD.out _).1,(BD.out _).2,by simpa using HE2.out,by simpa using HO2.out⟩
   have e8:(kx !=8)=true:=by simpa using h8
   rw [decide_eq_false h8]at HO2;clear h8
   cases ev
   ·go_upto_region 11 with fail
    go_quiet(fail)
    go_wp2;go_roundg(gk-1)
    case measure=>omega
    case rel=>exact⟨j+1,el,ot+1,by omega,by go_num,rfl,by go_num,by omega,by omega,(BD.out _).1,(BD.out _).2,by simpa using HE2.out,by simpa using HO2.out⟩
   go_upto_region 11 with fail
   go_quiet(fail)
   go_wp2;go_roundg(gk-1)
   case measure=>omega
   case rel=>exact⟨j+1,el+1,ot+1,by omega,by go_num,by go_num,by go_num,by omega,by omega,(BD.out _).1,(BD.out _).2,by simpa using HE2.out,by simpa using HO2.out⟩
  have hd:decide((j:Int)<b)=false:=decide_eq_false(by omega);obtain⟨gn,on,rfl,hgn,hkc⟩:=NK.out i hi;have q3:=hkc wr HI.out.1;rw [HL.out.2.2]at q3
  have HR2:Hid(Nt.joinB k a b el ot=r):=by
   show _=_;have h3:=HI.out.2.2.1;have h4:=HI.out.2.2.2;rw [List.take_of_length_le(by rw [HL.out.2.1];omega)]at h3 h4;rw [HT.out,h3,h4]
  have hgw:gn<wr.heap.size:=by have:=HI.out.1.size;omega
  have hA:(((a:Int)==0)=true/\((a:Int)==1)=false/\decide((2:Int)<=a)=false/\Hid(a=0))∨(((a:Int)==0)=false/\((a:Int)==1)=true/\decide((2:Int)<=a)=false/\Hid(a=1))∨(((a:Int)==0)=false/\((a:Int)==1)=false/\decide((2:Int)<=a)=true/\Hid(2<=a)):=by
   rcases Nat.lt_or_ge a 1 with h|h
   ·exact .inl⟨by simp;omega,by simp;omega,by simp;omega,by show a=0;omega⟩
   rcases Nat.lt_or_ge a 2 with h|h
   ·exact .inr(.inl⟨by simp;omega,by simp;omega,by simp;omega,by show a=1;omega⟩)
   exact .inr(.inr⟨by simp;omega,by simp;omega,by simp;omega,h⟩)
  have hB:(((b:Int)==0)=true/\((b:Int)==1)=false/\decide((2:Int)<=b)=false/\Hid(b=0))∨(((b:Int)==0)=false/\((b:Int)==1)=true/\decide((2:Int)<=b)=false/\Hid(b=1))∨(((b:Int)==0)=false/\((b:Int)==1)=false/\decide((2:Int)<=b)=true/\Hid(2<=b)):=by
   rcases Nat.lt_or_ge b 1 with h|h
   ·exact .inl⟨by simp;omega,by simp;omega,by simp;omega,by show b=0;omega⟩
   rcases Nat.lt_or_ge b 2 with h|h
   ·exact .inr(.inl⟨by simp;omega,by simp;omega,by simp;omega,by show b=1;omega⟩)
   exact .inr(.inr⟨by simp;omega,by simp;omega,by simp;omega,h⟩)
  have hE:(((el:Int)==1)=true/\Hid(el=1))∨(((el:Int)==1)=false/\Hid(¬el=1)):=by
   by_cases h:el=1
   ·exact .inl⟨by simp;omega,h⟩
   exact .inr⟨by simp;omega,h⟩
  have hO:(((ot:Int)==0)=true/\Hid(ot=0))∨(((ot:Int)==0)=false/\Hid(¬ot=0)):=by
   by_cases h:ot=0
   ·exact .inl⟨by simp;omega,h⟩
   exact .inr⟨by simp;omega,h⟩
  clear hkc NK FK HT HL B2 BR hj he ho
  by_cases k1:k=1
  ·subst k1
   have HR3:Hid(decide(a=0/\b=1)=r):=by show _=_;rw [<-HR2.out];simp [Nt.joinB]
   rcases hA with⟨a0,a1,a2,a3⟩|⟨a0,a1,a2,a3⟩|⟨a0,a1,a2,a3⟩<;>rcases hB with⟨b0,b1,b2,b3⟩|⟨b0,b1,b2,b3⟩|⟨b0,b1,b2,b3⟩
   all_goals
    go_wp2;go_ret;refine⟨Tk.ret_bool ?_,HI.out.1⟩;rw [<-HR3.out];have x1:=a3.out;have x2:=b3.out
    first|exact(decide_eq_true(by omega)).symm|exact(decide_eq_false(by omega)).symm
  by_cases k2:k=2
  ·subst k2
   have HR3:Hid(decide(a=1/\b=0)=r):=by show _=_;rw [<-HR2.out];simp [Nt.joinB]
   rcases hA with⟨a0,a1,a2,a3⟩|⟨a0,a1,a2,a3⟩|⟨a0,a1,a2,a3⟩<;>rcases hB with⟨b0,b1,b2,b3⟩|⟨b0,b1,b2,b3⟩|⟨b0,b1,b2,b3⟩
   all_goals
    go_wp2;go_ret;refine⟨Tk.ret_bool ?_,HI.out.1⟩;rw [<-HR3.out];have x1:=a3.out;have x2:=b3.out
    first|exact(decide_eq_true(by omega)).symm|exact(decide_eq_false(by omega)).symm
  by_cases k5:k=5
  ·subst k5
   have HR3:Hid(decide((a=1/\2<=b/\el=1)∨(2<=a/\b=1))=r):=by show _=_;rw [<-HR2.out];simp [Nt.joinB]
   rcases hA with⟨a0,a1,a2,a3⟩|⟨a0,a1,a2,a3⟩|⟨a0,a1,a2,a3⟩<;>rcases hB with⟨b0,b1,b2,b3⟩|⟨b0,b1,b2,b3⟩|⟨b0,b1,b2,b3⟩<;>rcases hE with⟨e0,e1⟩|⟨e0,e1⟩
   all_goals
    go_wp2;go_ret;refine⟨Tk.ret_bool ?_,HI.out.1⟩;rw [<-HR3.out];have x1:=a3.out;have x2:=b3.out;have x3:=e1.out
    first|exact(decide_eq_true(by omega)).symm|exact(decide_eq_false(by omega)).symm
  by_cases k6:k=6
  ·subst k6
   have HR3:Hid(decide((a=1/\2<=b)∨(2<=a/\b=1))=r):=by show _=_;rw [<-HR2.out];simp [Nt.joinB]
   rcases hA with⟨a0,a1,a2,a3⟩|⟨a0,a1,a2,a3⟩|⟨a0,a1,a2,a3⟩<;>rcases hB with⟨b0,b1,b2,b3⟩|⟨b0,b1,b2,b3⟩|⟨b0,b1,b2,b3⟩
   all_goals
    go_wp2;go_ret;refine⟨Tk.ret_bool ?_,HI.out.1⟩;rw [<-HR3.out];have x1:=a3.out;have x2:=b3.out
    first|exact(decide_eq_true(by omega)).symm|exact(decide_eq_false(by omega)).symm
  by_cases k7:k=7
  ·subst k7
   have HR3:Hid(decide(a=1/\2<=b/\ot=0)=r):=by show _=_;rw [<-HR2.out];simp [Nt.joinB]
   rcases hA with⟨a0,a1,a2,a3⟩|⟨a0,a1,a2,a3⟩|⟨a0,a1,a2,a3⟩<;>rcases hB with⟨b0,b1,b2,b3⟩|⟨b0,b1,b2,b3⟩|⟨b0,b1,b2,b3⟩<;>rcases hO with⟨e0,e1⟩|⟨e0,e1⟩
   all_goals
    go_wp2;go_ret;refine⟨Tk.ret_bool ?_,HI.out.1⟩;rw [<-HR3.out];have x1:=a3.out;have x2:=b3.out;have x3:=e1.out
    first|exact(decide_eq_true(by omega)).symm|exact(decide_eq_false(by omega)).symm
  have f1:(k==1)=false:=by simpa using k1
  have f2:(k==2)=false:=by simpa using k2
  have f5:(k==5)=false:=by simpa using k5
  have f6:(k==6)=false:=by simpa using k6
  have f7:(k==7)=false:=by simpa using k7
  have HR3:Hid(decide(a=1/\b=1)=r):=by show _=_;rw [<-HR2.out,Nt.joinB,if_neg k1,if_neg k2,if_neg k5,if_neg k6,if_neg k7]
  clear k1 k2 k5 k6 k7
  rcases hA with⟨a0,a1,a2,a3⟩|⟨a0,a1,a2,a3⟩|⟨a0,a1,a2,a3⟩<;>rcases hB with⟨b0,b1,b2,b3⟩|⟨b0,b1,b2,b3⟩|⟨b0,b1,b2,b3⟩
  all_goals
   go_wp2;go_ret;refine⟨Tk.ret_bool ?_,HI.out.1⟩;rw [<-HR3.out];have x1:=a3.out;have x2:=b3.out
   first|exact(decide_eq_true(by omega)).symm|exact(decide_eq_false(by omega)).symm
end Go.Proofs
