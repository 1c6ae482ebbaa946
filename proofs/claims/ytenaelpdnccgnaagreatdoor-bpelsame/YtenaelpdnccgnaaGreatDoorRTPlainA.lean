import Derived.Lib.Hide
import Derived.Deep.DeepCutAuto
import Derived.Test.YtenaelpdnccgnaaGreatDoorRRkModel
set_option maxRecDepth 100000
set_option maxHeartbeats 32000000
namespace Go.Proofs
open Go.RowKit
theorem Tryz.plainTerm_any:∀(d:Nat) (S T:Tm) (va vb:Value) (d' B:Nat) (w:World),Tm.Lies w B d va S->Tm.Lies w B d' vb T->B<=w.heap.size->S.size<=2147483647->T.size<=2147483647->
  Calls Tryz.prog 34 #[.agg #[.int .i64 S.op,.int .i64 S.num,va],.agg #[.int .i64 T.op,.int .i64 T.num,vb]] w λe w'=>(∃r,e=.returned (.bool r)/\(r=true↔S=T))/\Below w.heap.size w w':=by
 intro d
 induction d with
 |zero=>intro S T va vb d' B w h;exact h.elim
 |succ d ih=>
  intro S T va vb d' B w hA hB hBs hsz hszT
  cases d' with
  |zero=>exact hB.elim
  |succ d'=>
  obtain⟨a,ca,rfl⟩:=hA.shape;obtain⟨b,cb,rfl⟩:=hB.shape;obtain⟨o,ho⟩:=pE (S.op);obtain⟨m,hm⟩:=pE (S.num);obtain⟨n,hn⟩:=pE (S.ks.length);obtain⟨o',ho'⟩:=pE (T.op);obtain⟨m',hm'⟩:=pE (T.num);obtain⟨n',hn'⟩:=pE (T.ks.length);have hn2:n<=2147483647:=by have:=Tm.length_le_sizes S.ks;have:=S.size_eq;omega
  have hn2':n'<=2147483647:=by have:=Tm.length_le_sizes T.ks;have:=T.size_eq;omega
  rw[ho,hm,hn,ho',hm',hn'];rw[hn]at hA;rw[hn']at hB;obtain⟨w0,hw0⟩:∃w0,w0=(w.alloc (.cells #[.int .i64 o,.int .i64 m,.slice a n ca] 24)).alloc (.cells #[.int .i64 o',.int .i64 m',.slice b n' cb] 24):=⟨_,rfl⟩;have A0:Hid (Below w.heap.size w w0):=by rw[hw0];exact((Below.refl _ w).alloc (Nat.le_refl _) _).alloc (by simp) _
  have AW:Hid (Below w.heap.size w ((w.alloc (.cells #[.int .i64 o,.int .i64 m,.slice a n ca] 24)).alloc (.cells #[.int .i64 o',.int .i64 m',.slice b n' cb] 24))):=((Below.refl _ w).alloc (Nat.le_refl _) _).alloc (by simp) _
  have HNE:Hid ((o≠o'∨m≠m'∨n≠n')->¬S=T):=λh e=>by
   subst e;rw[ho]at ho';rw[hm]at hm';rw[hn]at hn';omega
  by_cases h1:o=o'
  rotate_left
  ·have e1:(o==o')=false:=by simpa using h1
   have HN:Hid (¬S=T):=HNE.out (.inl h1);clear ih hA hB ho hm hn hw0 hBs hsz hszT ho' hm' hn' HNE A0
   go_enter Tryz.func34,Tryz.ntmps34
   go_wp2;go_ret;exact⟨⟨false,rfl,⟨λh=>by simp at h,λh=>absurd h HN.out⟩⟩,AW.out⟩
  by_cases h2:m=m'
  rotate_left
  ·have e2:(m==m')=false:=by simpa using h2
   have HN:Hid (¬S=T):=HNE.out (.inr (.inl h2));subst h1;clear ih hA hB ho hm hn hw0 hBs hsz hszT ho' hm' hn' HNE A0
   go_enter Tryz.func34,Tryz.ntmps34
   go_wp2;go_ret;exact⟨⟨false,rfl,⟨λh=>by simp at h,λh=>absurd h HN.out⟩⟩,AW.out⟩
  by_cases h3:n=n'
  rotate_left
  ·have e3:((n:Int)==(n':Int))=false:=by simp;omega
   have HN:Hid (¬S=T):=HNE.out (.inr (.inr h3));subst h1 h2;clear ih hA hB ho hm hn hw0 hBs hsz hszT ho' hm' hn' h3 HNE A0
   go_enter Tryz.func34,Tryz.ntmps34
   go_wp2;go_ret;exact⟨⟨false,rfl,⟨λh=>by simp at h,λh=>absurd h HN.out⟩⟩,AW.out⟩
  subst h1 h2 h3;have HA:Hid (Tm.Lies w B (d+1) (.slice a n ca) S):=hA;have HB:Hid (Tm.Lies w B (d'+1) (.slice b n cb) T):=hB;have HI:Hid _:=ih;have HM:Hid (S.ks.length=n/\B<=w.heap.size/\S.size<=2147483647/\T.ks.length=n/\T.size<=2147483647/\(S=T↔S.ks=T.ks)):=⟨hn,hBs,hsz,hn',hszT,by rw[Tm.eq_iff,ho,hm,ho',hm'];simp⟩;have S0:Hid (w0.heap.size=w.heap.size+2):=by show _=_;rw[hw0];simp
  have C0:Hid (w0.heap[w.heap.size]? =some (.cells #[.int .i64 o,.int .i64 m,.slice a n ca] 24 (0,0))):=by show _=_;rw[hw0,Below.heap_alloc _ _ _ (by simp)];exact heap_alloc_new w _
  have C1:Hid (w0.heap[w.heap.size+1]? =some (.cells #[.int .i64 o,.int .i64 m,.slice b n cb] 24 (0,0))):=by
   show _=_;rw[hw0];have:=heap_alloc_new (w.alloc (.cells #[.int .i64 o,.int .i64 m,.slice a n ca] 24)) (.cells #[.int .i64 o,.int .i64 m,.slice b n cb] 24);simpa using this
  have HW0:Hid (w0=_):=hw0;clear ih hA hB ho hm hn hw0 hBs hsz hszT ho' hm' hn'
  go_enter Tryz.func34,Tryz.ntmps34
  go_wp2
  go_loopg [30] n (λg i wr=>∃j:Nat,g+j=n/\i=.int .i64 j/\Hid (Below w0.heap.size w0 wr/\S.ks.take j=T.ks.take j))
  case atStart=>exact⟨0,by omega,rfl,by rw[HW0.out];exact Below.refl _ _,by simp⟩
  case round=>
   obtain⟨j,hj,rfl,HJ⟩:=hrel
   by_cases hjn:j<n
   rotate_left
   ·go_wp2
    go_ret;refine⟨⟨true,rfl,⟨λ_=> ?_,λ_=>rfl⟩⟩,A0.out.trans (HJ.out.1.mono A0.out.size)⟩;have h:=HJ.out.2;rw[List.take_of_length_le (by rw[HM.out.1];omega),List.take_of_length_le (by rw[HM.out.2.2.2.1];omega)]at h;exact HM.out.2.2.2.2.2.2 h
   have hjk:j<S.ks.length:=by rw[HM.out.1];exact hjn
   have hjk':j<T.ks.length:=by rw[HM.out.2.2.2.1];exact hjn
   have hxs:=Tm.sizes_get S.ks j hjk;have hts:=S.size_eq;have hxs':=Tm.sizes_get T.ks j hjk';have hts':=T.size_eq;obtain⟨g,off,u,rfl,hg,q0,q1,q2,q3⟩:=HA.out.kid j hjk;obtain⟨g',off',u',rfl,hg',p0,p1,p2,p3⟩:=HB.out.kid j hjk';obtain⟨x,hx⟩:=pE (S.ks[j]);obtain⟨y,hy⟩:=pE (T.ks[j]);rw[hx]at q0 q1 q3 hxs;rw[hy]at p0 p1 p3 hxs';obtain⟨au,cu,rfl⟩:=q3.shape;obtain⟨bu,du,rfl⟩:=p3.shape;obtain⟨nx,hnx⟩:=pE (x.ks.length);obtain⟨ny,hny⟩:=pE (y.ks.length);rw[hnx]at q2 q3;rw[hny]at p2 p3;obtain⟨x0,hx0⟩:=pE (x.op);obtain⟨x1,hx1⟩:=pE (x.num);obtain⟨y0,hy0⟩:=pE (y.op);obtain⟨y1,hy1⟩:=pE (y.num);rw[hx0]at q0;rw[hx1]at q1;rw[hy0]at p0;rw[hy1]at p1;have hs0:=S0.out;have hbs:=HM.out.2.1;have hbw:Below w.heap.size w wr:=A0.out.trans (HJ.out.1.mono (by omega));have hc:∀g p,g<B->wr.cell? ⟨g,p,none⟩=w.cell? ⟨g,p,none⟩:=λg p hg=>hbw.cell (p:=⟨g,p,none⟩) (by show g<_;omega);have hc0:wr.cell? ⟨g,off+j*3,none⟩=some (.int .i64 x0):=by rw[hc _ _ hg];exact q0
   have hc1:wr.cell? ⟨g,off+j*3+1,none⟩=some (.int .i64 x1):=by rw[hc _ _ hg];exact q1
   have hc2:wr.cell? ⟨g,off+j*3+2,none⟩=some (.slice au nx cu):=by rw[hc _ _ hg];exact q2
   have hd0:wr.cell? ⟨g',off'+j*3,none⟩=some (.int .i64 y0):=by rw[hc _ _ hg'];exact p0
   have hd1:wr.cell? ⟨g',off'+j*3+1,none⟩=some (.int .i64 y1):=by rw[hc _ _ hg'];exact p1
   have hd2:wr.cell? ⟨g',off'+j*3+2,none⟩=some (.slice bu ny du):=by rw[hc _ _ hg'];exact p2
   obtain⟨⟨_,_,va2⟩,_⟩:=Tk.row3 ((HJ.out.1.block _ (by omega)).trans C0.out);obtain⟨⟨_,_,vb2⟩,_⟩:=Tk.row3 ((HJ.out.1.block _ (by omega)).trans C1.out)
   have HC:Hid (∀W,Below w0.heap.size w0 W->Calls Tryz.prog 34 #[.agg #[.int .i64 x0,.int .i64 x1,.slice au nx cu],.agg #[.int .i64 y0,.int .i64 y1,.slice bu ny du]] W λe w'=>∃r,e=.returned (.bool r)/\(r=true↔x=y)/\Below w0.heap.size w0 w'):=λW hW=>by
    have hbW:Below w.heap.size w W:=A0.out.trans (hW.mono (by omega));have:=HI.out x y (.slice au nx cu) (.slice bu ny du) d' B W (q3.keep λk hk=>hbW.block k (by omega)) (p3.keep λk hk=>hbW.block k (by omega)) (by have:=hbW.size;omega) (by have:=HM.out;omega) (by have:=HM.out;omega);rw[hx0,hx1,hy0,hy1]at this;exact this.mono λe w' ⟨⟨r,he,hr⟩,hb⟩=>⟨r,he,hr,hW.trans (hb.mono hW.size)⟩
   have HXY:Hid (S.ks[j]=x/\T.ks[j]=y):=⟨hx,hy⟩;clear hc q0 q1 q2 q3 p0 p1 p2 p3 hx hy hx0 hx1 hy0 hy1 hnx hny hbw hxs hts hxs' hts' hg hg' hs0 hbs
   go_upto_region 6 with fail
   go_region_with (first|(go_at_call 34;refine Calls.mono (HC.out _ (by first|exact HJ.out.1|exact Tk.below_drewN HJ.out.1 _)) ?_;rintro e W3 ⟨r,rfl,hr,b3⟩)|fail)
   all_goals
    have B3:Hid (Below w0.heap.size w0 W3):=b3;have HR:Hid (r=true↔x=y):=hr;clear b3 hr HC
    cases r
    ·go_wp2
     go_ret;refine⟨⟨false,rfl,⟨λh=>by simp at h,λh=> ?_⟩⟩,A0.out.trans (B3.out.mono A0.out.size)⟩;have hk:=HM.out.2.2.2.2.2.1 h
     have hxy:x=y:=by
      rw[<-HXY.out.1,<-HXY.out.2];simp only[hk]
     exact HR.out.2 hxy
    have HN:Hid (S.ks.take (j+1)=T.ks.take (j+1)):=by
     show _=_;rw[Tm.take_snoc _ _ hjk,Tm.take_snoc _ _ hjk',HJ.out.2,HXY.out.1,HXY.out.2,HR.out.1 rfl]
    go_wp2;go_roundg (gk-1)
    case measure=>omega
    case rel=>exact⟨j+1,by omega,by go_num,B3.out,HN.out⟩
theorem Nt.nd_ext (x y:Nd):x=y↔x.kind=y.kind/\x.a=y.a/\x.t=y.t:=by cases x;cases y;simp
theorem Nt.fl_ext (x y:Fl):x=y↔x.fr=y.fr/\x.to=y.to/\x.els=y.els/\x.c=y.c:=by cases x;cases y;simp
theorem Nt.below_row {B:Nat}{a w:World}(h:Below B a w){g:Nat}(hg:B<=g)(cs:Array Value):Below B a (w.setRow g cs):=
 h.trans ⟨rfl,rfl,rfl,by simp[World.setRow],λk hk=>setRow_other _ _ _ _ (by omega)⟩
def Nt.Told (P:Prop)(e:Ending):Prop:=∃r,e=.returned (.bool r)/\(r=true↔P)
theorem Tryz.plainNet_any (d d' B:Nat)(an:Option Addr)(cn:Nat)(af:Option Addr)(cf:Nat)(ns:List Nd)(fs:List Fl)(an':Option Addr)(cn':Nat)(af':Option Addr)(cf':Nat)(ns':List Nd)(fs':List Fl)(w:World)(hX:Nt.Has w B d an af ns fs)(hY:Nt.Has w B d' an' af' ns' fs')(hB:B<=w.heap.size):
  Calls Tryz.prog 35 #[.agg #[.slice an ns.length cn,.slice af fs.length cf],.agg #[.slice an' ns'.length cn',.slice af' fs'.length cf']] w λe w'=>Nt.Told (ns=ns'/\fs=fs') e/\Below w.heap.size w w':=by
 obtain⟨n,hn⟩:=pE (ns.length);obtain⟨n',hn'⟩:=pE (ns'.length);obtain⟨m0,hm⟩:=pE (fs.length);obtain⟨m',hm'⟩:=pE (fs'.length);rw[hn,hn',hm,hm'];obtain⟨W0,hW0⟩:=pE ((w.alloc (.cells #[.slice an n cn,.slice af m0 cf] 30)).alloc (.cells #[.slice an' n' cn',.slice af' m' cf'] 30));have A0:Below w.heap.size w W0:=by rw[<-hW0];exact((Below.refl _ w).alloc (Nat.le_refl _) _).alloc (by simp) _
 have S0:W0.heap.size=w.heap.size+2:=by rw[<-hW0];simp
 have G1:W0.heap[w.heap.size]? =some (.cells #[.slice an n cn,.slice af m0 cf] 30 (0,0)):=by rw[<-hW0,Below.heap_alloc _ _ _ (by simp)];exact heap_alloc_new w _
 have G2:W0.heap[w.heap.size+1]? =some (.cells #[.slice an' n' cn',.slice af' m' cf'] 30 (0,0)):=by
  rw[<-hW0];have:=heap_alloc_new (w.alloc (.cells #[.slice an n cn,.slice af m0 cf] 30)) (.cells #[.slice an' n' cn',.slice af' m' cf'] 30);simpa using this
 have CF:Hid (∀W,Below W0.heap.size W0 W->(W.cell? ⟨w.heap.size,0,none⟩=some (.slice an n cn)/\W.cell? ⟨w.heap.size,1,none⟩=some (.slice af m0 cf))/\(W.cell? ⟨w.heap.size+1,0,none⟩=some (.slice an' n' cn')/\W.cell? ⟨w.heap.size+1,1,none⟩=some (.slice af' m' cf'))/\Below w.heap.size w W):=λW hb=>by
  have e1:=(hb.block w.heap.size (by omega)).trans G1;have e2:=(hb.block (w.heap.size+1) (by omega)).trans G2;exact⟨⟨by simp[World.cell?,e1],by simp[World.cell?,e1]⟩,⟨by simp[World.cell?,e2],by simp[World.cell?,e2]⟩,A0.trans (hb.mono (by omega))⟩
 have HX:Hid (Nt.Has w B d an af ns fs):=hX;have HY:Hid (Nt.Has w B d' an' af' ns' fs'):=hY;have HB:Hid (B<=w.heap.size):=hB;have hnb:n<=100:=by have:=hX.nlen;omega
 have hnb':n'<=100:=by have:=hY.nlen;omega
 have hmb:m0<=100:=by have:=hX.flen;omega
 have hmb':m'<=100:=by have:=hY.flen;omega
 have HLN:Hid (ns.length=n/\ns'.length=n'/\fs.length=m0/\fs'.length=m'):=⟨hn,hn',hm,hm'⟩;have HW0:Hid _:=hW0;have BR:Hid (Below W0.heap.size W0 W0):=Below.refl _ _;obtain⟨⟨x0,x1⟩,⟨y0,y1⟩,hb0⟩:=CF.out W0 BR.out;have HF0:Hid (Below w.heap.size w W0):=hb0;clear hX hY hB hn hn' hm hm' hW0 A0 S0 G1 G2 hb0
 by_cases hne:n=n'/\m0=m'
 rotate_left
 ·have HNO:Hid (¬(ns=ns'/\fs=fs')):=λe=>hne (by
   have h:=HLN.out;rw[e.1,e.2]at h
   omega)
  obtain d1|⟨d1,d2⟩:((n:Int) !=n')=true∨(((n:Int) !=n')=false/\((m0:Int) !=m')=true):=by
   by_cases h:n=n'
   ·exact .inr ⟨by simp[h],by simp;omega⟩
   exact .inl (by simp;omega)
  all_goals
   clear hne
   go_enter Tryz.func35,Tryz.ntmps35
   go_upto_region 1 with fail
   rw[HW0.out];go_wp2;go_ret;exact⟨⟨false,rfl,by simp only[Bool.false_eq_true,false_iff];exact HNO.out⟩,HF0.out⟩
 obtain⟨h1,h2⟩:=hne;subst h1;subst h2;have HM:Hid (ns.length=n/\ns'.length=n/\fs.length=m0/\fs'.length=m0):=HLN.out;have d1:((n:Int) !=n)=false:=by simp
 have d2:((m0:Int) !=m0)=false:=by simp
 go_enter Tryz.func35,Tryz.ntmps35
 go_upto_region 1 with fail
 rw[HW0.out];clear HW0;go_wp2
 go_loopg [5,6,7,30] n (λgk _ _ _ s30 wr=>∃j:Nat,gk+j=n/\s30=.int .i64 j/\Hid (Below W0.heap.size W0 wr/\ns.take j=ns'.take j))
 case atStart=>exact⟨0,by omega,rfl,BR.out,by simp⟩
 case round=>
  obtain⟨j,hj,rfl,HJ⟩:=hrel;clear x0 x1 y0 y1
  by_cases hjn:j<n
  ·have hd:decide ((j:Int)<n)=true:=decide_eq_true (by omega)
   have hjx:j<ns.length:=by rw[HM.out.1];exact hjn
   have hjy:j<ns'.length:=by rw[HM.out.2.1];exact hjn
   obtain⟨gx,ox,ux,rfl,hgx,p0,p1,p2,p3,p4,px⟩:=HX.out.nds j hjx;obtain⟨gy,oy,uy,rfl,hgy,q0,q1,q2,q3,q4,qx⟩:=HY.out.nds j hjy;obtain⟨s,hs⟩:=pE (ns[j]);obtain⟨t,ht⟩:=pE (ns'[j]);have hzs:s.t.size<=2147483647:=by rw[<-hs];exact HX.out.nsz _ (List.getElem_mem hjx)
   have hzt:t.t.size<=2147483647:=by rw[<-ht];exact HY.out.nsz _ (List.getElem_mem hjy)
   rw[hs]at p0 p1 p2 p3 px;rw[ht]at q0 q1 q2 q3 qx;obtain⟨ax,cx,rfl⟩:=px.shape;obtain⟨ay,cy,rfl⟩:=qx.shape;obtain⟨nx,hnx⟩:=pE (s.t.ks.length);obtain⟨ny,hny⟩:=pE (t.t.ks.length);rw[hnx]at p4 px;rw[hny]at q4 qx;obtain⟨k,hk⟩:=pE (s.kind);rw[hk]at p0;obtain⟨a0,ha0⟩:=pE (s.a);rw[ha0]at p1;obtain⟨o,ho⟩:=pE (s.t.op);rw[ho]at p2;obtain⟨m,hm⟩:=pE (s.t.num);rw[hm]at p3;obtain⟨k',hk'⟩:=pE (t.kind);rw[hk']at q0;obtain⟨b0,hb0⟩:=pE (t.a);rw[hb0]at q1;obtain⟨o',ho'⟩:=pE (t.t.op);rw[ho']at q2;obtain⟨m',hm'⟩:=pE (t.t.num);rw[hm']at q3;have hbw:=(CF.out wr HJ.out.1).2.2;have HSN:Hid ((s=t↔k=k'/\a0=b0/\s.t=t.t)/\ns[j]=s/\ns'[j]=t):=⟨by rw[Nt.nd_ext];simp only[hk,hk',ha0,hb0],hs,ht⟩;have ca0:wr.cell? ⟨gx,ox+j*5,none⟩=some (.int .i64 k):=by rw[hbw.cell (p:=⟨gx,ox+j*5,none⟩) (Nat.lt_of_lt_of_le hgx HB.out)];exact p0
   have ca1:wr.cell? ⟨gx,ox+j*5+1,none⟩=some (.int .i64 a0):=by rw[hbw.cell (p:=⟨gx,ox+j*5+1,none⟩) (Nat.lt_of_lt_of_le hgx HB.out)];exact p1
   have ca2:wr.cell? ⟨gx,ox+j*5+2,none⟩=some (.int .i64 o):=by rw[hbw.cell (p:=⟨gx,ox+j*5+2,none⟩) (Nat.lt_of_lt_of_le hgx HB.out)];exact p2
   have ca3:wr.cell? ⟨gx,ox+j*5+3,none⟩=some (.int .i64 m):=by rw[hbw.cell (p:=⟨gx,ox+j*5+3,none⟩) (Nat.lt_of_lt_of_le hgx HB.out)];exact p3
   have ca4:wr.cell? ⟨gx,ox+j*5+4,none⟩=some (.slice ax nx cx):=by rw[hbw.cell (p:=⟨gx,ox+j*5+4,none⟩) (Nat.lt_of_lt_of_le hgx HB.out)];exact p4
   have HKA:Hid ((wr.alloc (.cells #[.int .i64 0,.int .i64 0,.int .i64 0,.int .i64 0,.slice none 0 0] 62)).heap[wr.heap.size]? =some (.cells #[.int .i64 0,.int .i64 0,.int .i64 0,.int .i64 0,.slice none 0 0] 62 (0,0))):=heap_alloc_new wr _;obtain⟨V1,hV1⟩:=pE ((wr.alloc (.cells #[.int .i64 0,.int .i64 0,.int .i64 0,.int .i64 0,.slice none 0 0] 62)).setRow wr.heap.size #[.int .i64 k,.int .i64 a0,.int .i64 o,.int .i64 m,.slice ax nx cx]);have HV1:Hid _:=hV1;have GA:Hid (V1.heap[wr.heap.size]? =some (.cells #[.int .i64 k,.int .i64 a0,.int .i64 o,.int .i64 m,.slice ax nx cx] 62 (0,0))):=by show _=_;rw[<-hV1];exact setRow_heap _ _ _ _ _ _ HKA.out
   have B1:Hid (Below wr.heap.size wr V1):=by show Below _ _ _;rw[<-hV1];exact Nt.below_row ((Below.refl _ wr).alloc (Nat.le_refl _) _) (Nat.le_refl _) _
   have HKB:Hid ((V1.alloc (.cells #[.int .i64 0,.int .i64 0,.int .i64 0,.int .i64 0,.slice none 0 0] 62)).heap[V1.heap.size]? =some (.cells #[.int .i64 0,.int .i64 0,.int .i64 0,.int .i64 0,.slice none 0 0] 62 (0,0))):=heap_alloc_new V1 _;obtain⟨V2,hV2⟩:=pE ((V1.alloc (.cells #[.int .i64 0,.int .i64 0,.int .i64 0,.int .i64 0,.slice none 0 0] 62)).setRow V1.heap.size #[.int .i64 k',.int .i64 b0,.int .i64 o',.int .i64 m',.slice ay ny cy]);have HV2:Hid _:=hV2;have GB:Hid (V2.heap[V1.heap.size]? =some (.cells #[.int .i64 k',.int .i64 b0,.int .i64 o',.int .i64 m',.slice ay ny cy] 62 (0,0))):=by show _=_;rw[<-hV2];exact setRow_heap _ _ _ _ _ _ HKB.out
   have B2:Hid (Below V1.heap.size V1 V2):=by show Below _ _ _;rw[<-hV2];exact Nt.below_row ((Below.refl _ V1).alloc (Nat.le_refl _) _) (Nat.le_refl _) _
   have GA2:Hid (V2.heap[wr.heap.size]? =some (.cells #[.int .i64 k,.int .i64 a0,.int .i64 o,.int .i64 m,.slice ax nx cx] 62 (0,0))):=(B2.out.block _ (Array.getElem?_eq_some_iff.1 GA.out).1).trans GA.out;have BV1:Hid (Below W0.heap.size W0 V1):=HJ.out.1.trans (B1.out.mono HJ.out.1.size);have BV2:Hid (Below W0.heap.size W0 V2):=BV1.out.trans (B2.out.mono BV1.out.size);have hbw1:=(CF.out V1 BV1.out).2.2;have cb0:V1.cell? ⟨gy,oy+j*5,none⟩=some (.int .i64 k'):=by rw[hbw1.cell (p:=⟨gy,oy+j*5,none⟩) (Nat.lt_of_lt_of_le hgy HB.out)];exact q0
   have cb1:V1.cell? ⟨gy,oy+j*5+1,none⟩=some (.int .i64 b0):=by rw[hbw1.cell (p:=⟨gy,oy+j*5+1,none⟩) (Nat.lt_of_lt_of_le hgy HB.out)];exact q1
   have cb2:V1.cell? ⟨gy,oy+j*5+2,none⟩=some (.int .i64 o'):=by rw[hbw1.cell (p:=⟨gy,oy+j*5+2,none⟩) (Nat.lt_of_lt_of_le hgy HB.out)];exact q2
   have cb3:V1.cell? ⟨gy,oy+j*5+3,none⟩=some (.int .i64 m'):=by rw[hbw1.cell (p:=⟨gy,oy+j*5+3,none⟩) (Nat.lt_of_lt_of_le hgy HB.out)];exact q3
   have cb4:V1.cell? ⟨gy,oy+j*5+4,none⟩=some (.slice ay ny cy):=by rw[hbw1.cell (p:=⟨gy,oy+j*5+4,none⟩) (Nat.lt_of_lt_of_le hgy HB.out)];exact q4
   have e0:V2.cell? ⟨wr.heap.size,0,none⟩=some (.int .i64 k):=by simp[World.cell?,GA2.out]
   have e1:V2.cell? ⟨wr.heap.size,1,none⟩=some (.int .i64 a0):=by simp[World.cell?,GA2.out]
   have e2:V2.cell? ⟨wr.heap.size,2,none⟩=some (.int .i64 o):=by simp[World.cell?,GA2.out]
   have e3:V2.cell? ⟨wr.heap.size,3,none⟩=some (.int .i64 m):=by simp[World.cell?,GA2.out]
   have e4:V2.cell? ⟨wr.heap.size,4,none⟩=some (.slice ax nx cx):=by simp[World.cell?,GA2.out]
   have f0:V2.cell? ⟨V1.heap.size,0,none⟩=some (.int .i64 k'):=by simp[World.cell?,GB.out]
   have f1:V2.cell? ⟨V1.heap.size,1,none⟩=some (.int .i64 b0):=by simp[World.cell?,GB.out]
   have f2:V2.cell? ⟨V1.heap.size,2,none⟩=some (.int .i64 o'):=by simp[World.cell?,GB.out]
   have f3:V2.cell? ⟨V1.heap.size,3,none⟩=some (.int .i64 m'):=by simp[World.cell?,GB.out]
   have f4:V2.cell? ⟨V1.heap.size,4,none⟩=some (.slice ay ny cy):=by simp[World.cell?,GB.out]
   have hbw2:=(CF.out V2 BV2.out).2.2;have hcall:=Tryz.plainTerm_any _ s.t t.t _ _ _ _ V2 ((px.below (hbw2.mono HB.out))) ((qx.below (hbw2.mono HB.out))) (Nat.le_trans HB.out hbw2.size) hzs hzt;rw[ho,hm,ho',hm']at hcall
   have HC:Hid (Calls Tryz.prog 34 #[.agg #[.int .i64 o,.int .i64 m,.slice ax nx cx],.agg #[.int .i64 o',.int .i64 m',.slice ay ny cy]] V2 λe w'=>∃r,e=.returned (.bool r)/\Hid ((r=true↔s.t=t.t)/\Below W0.heap.size W0 w')):=hcall.mono λ_ _ q=>by
    obtain⟨⟨r,hr,hq⟩,hb⟩:=q;exact⟨r,hr,hq,BV2.out.trans (hb.mono BV2.out.size)⟩
   have HNO:Hid (¬s=t->¬(ns=ns'/\fs=fs')):=λh e=>h (by
    have h1:=HSN.out.2.1;have h2:=HSN.out.2.2;rw[<-h1,<-h2]
    simp only[e.1])
   clear p0 p1 p2 p3 p4 q0 q1 q2 q3 q4 px qx hs ht hzs hzt hnx hny hcall hbw hbw2 hV1 hV2 GA GA2 GB hk ha0 ho hm hk' hb0 ho' hm' hbw1;obtain⟨⟨x0,x1⟩,⟨y0,y1⟩,-⟩:=CF.out wr HJ.out.1
   go_upto_region 7 with(refine wpList_store_row rfl 62 _ _ rfl wr.heap.size _ rfl rfl 62 #[.int .i64 0,.int .i64 0,.int .i64 0,.int .i64 0,.slice none 0 0] (by exact HKA.out) (by kernel_rfl) rfl (by kernel_rfl) ?_)
   rw[HV1.out];clear x0 x1 y0 y1;obtain⟨⟨x0,x1⟩,⟨y0,y1⟩,-⟩:=CF.out V1 BV1.out
   go_upto_region 8 with(refine wpList_store_row rfl 62 _ _ rfl V1.heap.size _ rfl rfl 62 #[.int .i64 0,.int .i64 0,.int .i64 0,.int .i64 0,.slice none 0 0] (by exact HKB.out) (by kernel_rfl) rfl (by kernel_rfl) ?_)
   rw[HV2.out];clear x0 x1 y0 y1 HV1 HV2 HKA HKB ca0 ca1 ca2 ca3 ca4 cb0 cb1 cb2 cb3 cb4;have HF2:Hid (Below w.heap.size w V2):=(CF.out V2 BV2.out).2.2
   by_cases c0:k=k'
   rotate_left
   ·have d0:(k !=k')=true:=by simpa using c0
    have HN0:Hid (¬k=k'):=c0;clear c0 HC;go_wp2;go_ret;exact⟨⟨false,rfl,by simp only[Bool.false_eq_true,false_iff];exact HNO.out (by rw[HSN.out.1];intro h;exact HN0.out h.1)⟩,HF2.out⟩
   have d0:(k !=k')=false:=by rw[c0];simp
   have HC0:Hid (k=k'):=c0
   by_cases c1:a0=b0
   rotate_left
   ·have d1:(a0 !=b0)=true:=by simpa using c1
    have HN1:Hid (¬a0=b0):=c1;clear c1 HC;go_wp2;go_ret;exact⟨⟨false,rfl,by simp only[Bool.false_eq_true,false_iff];exact HNO.out (by rw[HSN.out.1];intro h;exact HN1.out h.2.1)⟩,HF2.out⟩
   have d1:(a0 !=b0)=false:=by rw[c1];simp
   have HC1:Hid (a0=b0):=c1;clear c0 c1
   go_wp2_with fail
   refine Calls.mono HC.out ?_;rintro e W3 ⟨r,rfl,X3⟩;clear HC e0 f0 e1 f1 e2 f2 e3 f3 e4 f4;have HF3:Hid (Below w.heap.size w W3):=(CF.out W3 X3.out.2).2.2
   cases r with
   |false=>
    go_wp2;go_ret;exact⟨⟨false,rfl,by simp only[Bool.false_eq_true,false_iff];exact HNO.out (by rw[HSN.out.1];intro h;have:=X3.out.1.2 h.2.2;simp at this)⟩,HF3.out⟩
   |true=>
    have HTK:Hid (ns.take (j+1)=ns'.take (j+1)):=by
     show _=_;rw[Tm.take_snoc _ _ hjx,Tm.take_snoc _ _ hjy,HJ.out.2,HSN.out.2.1,HSN.out.2.2,HSN.out.1.2 ⟨HC0.out,HC1.out,X3.out.1.1 (by first|rfl|trivial)⟩]
    have HB3:Hid (Below W0.heap.size W0 W3):=X3.out.2;go_wp2;go_roundg (gk-1)
    case measure=>omega
    case rel=>exact⟨j+1,by omega,by go_num,HB3.out,HTK.out⟩
  have hd:decide ((j:Int)<n)=false:=decide_eq_false (by omega)
  have HEQ:Hid (ns=ns'):=by
   have h:=HJ.out.2;rw[List.take_of_length_le (by rw[HM.out.1];omega),List.take_of_length_le (by rw[HM.out.2.1];omega)]at h;exact h
  have BJ:Hid (Below W0.heap.size W0 wr):=HJ.out.1;obtain⟨⟨x0,x1⟩,⟨y0,y1⟩,hbf⟩:=CF.out wr BJ.out;have HFF:Hid (Below w.heap.size w wr):=hbf;clear HJ hbf;have HNS:Hid (ns=ns'):=HEQ.out;clear HEQ;go_wp2
  go_loopg [8,9,10,67] m0 (λgk _ _ _ s67 wr=>∃j:Nat,gk+j=m0/\s67=.int .i64 j/\Hid (Below W0.heap.size W0 wr/\fs.take j=fs'.take j))
  case atStart=>exact⟨0,by omega,rfl,BJ.out,by simp⟩
  case round=>
   obtain⟨j,hj,rfl,HJ⟩:=hrel;clear x0 x1 y0 y1
   by_cases hjn:j<m0
   rotate_left
   ·have hd:decide ((j:Int)<m0)=false:=decide_eq_false (by omega)
    have HEQ:Hid (fs=fs'):=by
     have h:=HJ.out.2;rw[List.take_of_length_le (by rw[HM.out.2.2.1];omega),List.take_of_length_le (by rw[HM.out.2.2.2];omega)]at h;exact h
    have BJ:Hid (Below W0.heap.size W0 wr):=HJ.out.1;obtain⟨⟨x0,x1⟩,⟨y0,y1⟩,hbf⟩:=CF.out wr BJ.out;have HFF:Hid (Below w.heap.size w wr):=hbf;clear HJ hbf;go_wp2;go_ret;exact⟨⟨true,rfl,by simp only[true_iff];exact⟨HNS.out,HEQ.out⟩⟩,HFF.out⟩
   have hd:decide ((j:Int)<m0)=true:=decide_eq_true (by omega);have hjx:j<fs.length:=by rw[HM.out.2.2.1];exact hjn
   have hjy:j<fs'.length:=by rw[HM.out.2.2.2];exact hjn
   obtain⟨gx,ox,ux,rfl,hgx,p0,p1,p2,p3,p4,p5,px⟩:=HX.out.fls j hjx;obtain⟨gy,oy,uy,rfl,hgy,q0,q1,q2,q3,q4,q5,qx⟩:=HY.out.fls j hjy;obtain⟨s,hs⟩:=pE (fs[j]);obtain⟨t,ht⟩:=pE (fs'[j]);have hzs:s.c.size<=2147483647:=by rw[<-hs];exact HX.out.fsz _ (List.getElem_mem hjx)
   have hzt:t.c.size<=2147483647:=by rw[<-ht];exact HY.out.fsz _ (List.getElem_mem hjy)
   rw[hs]at p0 p1 p2 p3 p4 px;rw[ht]at q0 q1 q2 q3 q4 qx;obtain⟨ax,cx,rfl⟩:=px.shape;obtain⟨ay,cy,rfl⟩:=qx.shape;obtain⟨nx,hnx⟩:=pE (s.c.ks.length);obtain⟨ny,hny⟩:=pE (t.c.ks.length);rw[hnx]at p5 px;rw[hny]at q5 qx;obtain⟨k,hk⟩:=pE (s.fr);rw[hk]at p0;obtain⟨a0,ha0⟩:=pE (s.to);rw[ha0]at p1;obtain⟨e,he⟩:=pE (s.els);rw[he]at p2;obtain⟨o,ho⟩:=pE (s.c.op);rw[ho]at p3;obtain⟨m,hm⟩:=pE (s.c.num);rw[hm]at p4;obtain⟨k',hk'⟩:=pE (t.fr);rw[hk']at q0;obtain⟨b0,hb0⟩:=pE (t.to);rw[hb0]at q1;obtain⟨e',he'⟩:=pE (t.els);rw[he']at q2;obtain⟨o',ho'⟩:=pE (t.c.op);rw[ho']at q3;obtain⟨m',hm'⟩:=pE (t.c.num);rw[hm']at q4;have hbw:=(CF.out wr HJ.out.1).2.2;have HSN:Hid ((s=t↔k=k'/\a0=b0/\e=e'/\s.c=t.c)/\fs[j]=s/\fs'[j]=t):=⟨by rw[Nt.fl_ext];simp only[hk,hk',ha0,hb0,he,he'],hs,ht⟩;have ca0:wr.cell? ⟨gx,ox+j*6,none⟩=some (.int .i64 k):=by rw[hbw.cell (p:=⟨gx,ox+j*6,none⟩) (Nat.lt_of_lt_of_le hgx HB.out)];exact p0
   have ca1:wr.cell? ⟨gx,ox+j*6+1,none⟩=some (.int .i64 a0):=by rw[hbw.cell (p:=⟨gx,ox+j*6+1,none⟩) (Nat.lt_of_lt_of_le hgx HB.out)];exact p1
   have ca2:wr.cell? ⟨gx,ox+j*6+2,none⟩=some (.bool e):=by rw[hbw.cell (p:=⟨gx,ox+j*6+2,none⟩) (Nat.lt_of_lt_of_le hgx HB.out)];exact p2
   have ca3:wr.cell? ⟨gx,ox+j*6+3,none⟩=some (.int .i64 o):=by rw[hbw.cell (p:=⟨gx,ox+j*6+3,none⟩) (Nat.lt_of_lt_of_le hgx HB.out)];exact p3
   have ca4:wr.cell? ⟨gx,ox+j*6+4,none⟩=some (.int .i64 m):=by rw[hbw.cell (p:=⟨gx,ox+j*6+4,none⟩) (Nat.lt_of_lt_of_le hgx HB.out)];exact p4
   have ca5:wr.cell? ⟨gx,ox+j*6+5,none⟩=some (.slice ax nx cx):=by rw[hbw.cell (p:=⟨gx,ox+j*6+5,none⟩) (Nat.lt_of_lt_of_le hgx HB.out)];exact p5
   have HKA:Hid ((wr.alloc (.cells #[.int .i64 0,.int .i64 0,.bool false,.int .i64 0,.int .i64 0,.slice none 0 0] 64)).heap[wr.heap.size]? =some (.cells #[.int .i64 0,.int .i64 0,.bool false,.int .i64 0,.int .i64 0,.slice none 0 0] 64 (0,0))):=heap_alloc_new wr _;obtain⟨V1,hV1⟩:=pE ((wr.alloc (.cells #[.int .i64 0,.int .i64 0,.bool false,.int .i64 0,.int .i64 0,.slice none 0 0] 64)).setRow wr.heap.size #[.int .i64 k,.int .i64 a0,.bool e,.int .i64 o,.int .i64 m,.slice ax nx cx]);have HV1:Hid _:=hV1;have GA:Hid (V1.heap[wr.heap.size]? =some (.cells #[.int .i64 k,.int .i64 a0,.bool e,.int .i64 o,.int .i64 m,.slice ax nx cx] 64 (0,0))):=by show _=_;rw[<-hV1];exact setRow_heap _ _ _ _ _ _ HKA.out
   have B1:Hid (Below wr.heap.size wr V1):=by show Below _ _ _;rw[<-hV1];exact Nt.below_row ((Below.refl _ wr).alloc (Nat.le_refl _) _) (Nat.le_refl _) _
   have HKB:Hid ((V1.alloc (.cells #[.int .i64 0,.int .i64 0,.bool false,.int .i64 0,.int .i64 0,.slice none 0 0] 64)).heap[V1.heap.size]? =some (.cells #[.int .i64 0,.int .i64 0,.bool false,.int .i64 0,.int .i64 0,.slice none 0 0] 64 (0,0))):=heap_alloc_new V1 _;obtain⟨V2,hV2⟩:=pE ((V1.alloc (.cells #[.int .i64 0,.int .i64 0,.bool false,.int .i64 0,.int .i64 0,.slice none 0 0] 64)).setRow V1.heap.size #[.int .i64 k',.int .i64 b0,.bool e',.int .i64 o',.int .i64 m',.slice ay ny cy]);have HV2:Hid _:=hV2;have GB:Hid (V2.heap[V1.heap.size]? =some (.cells #[.int .i64 k',.int .i64 b0,.bool e',.int .i64 o',.int .i64 m',.slice ay ny cy] 64 (0,0))):=by show _=_;rw[<-hV2];exact setRow_heap _ _ _ _ _ _ HKB.out
   have B2:Hid (Below V1.heap.size V1 V2):=by show Below _ _ _;rw[<-hV2];exact Nt.below_row ((Below.refl _ V1).alloc (Nat.le_refl _) _) (Nat.le_refl _) _
   have GA2:Hid (V2.heap[wr.heap.size]? =some (.cells #[.int .i64 k,.int .i64 a0,.bool e,.int .i64 o,.int .i64 m,.slice ax nx cx] 64 (0,0))):=(B2.out.block _ (Array.getElem?_eq_some_iff.1 GA.out).1).trans GA.out;have BV1:Hid (Below W0.heap.size W0 V1):=HJ.out.1.trans (B1.out.mono HJ.out.1.size);have BV2:Hid (Below W0.heap.size W0 V2):=BV1.out.trans (B2.out.mono BV1.out.size);have hbw1:=(CF.out V1 BV1.out).2.2;have cb0:V1.cell? ⟨gy,oy+j*6,none⟩=some (.int .i64 k'):=by rw[hbw1.cell (p:=⟨gy,oy+j*6,none⟩) (Nat.lt_of_lt_of_le hgy HB.out)];exact q0
   have cb1:V1.cell? ⟨gy,oy+j*6+1,none⟩=some (.int .i64 b0):=by rw[hbw1.cell (p:=⟨gy,oy+j*6+1,none⟩) (Nat.lt_of_lt_of_le hgy HB.out)];exact q1
   have cb2:V1.cell? ⟨gy,oy+j*6+2,none⟩=some (.bool e'):=by rw[hbw1.cell (p:=⟨gy,oy+j*6+2,none⟩) (Nat.lt_of_lt_of_le hgy HB.out)];exact q2
   have cb3:V1.cell? ⟨gy,oy+j*6+3,none⟩=some (.int .i64 o'):=by rw[hbw1.cell (p:=⟨gy,oy+j*6+3,none⟩) (Nat.lt_of_lt_of_le hgy HB.out)];exact q3
   have cb4:V1.cell? ⟨gy,oy+j*6+4,none⟩=some (.int .i64 m'):=by rw[hbw1.cell (p:=⟨gy,oy+j*6+4,none⟩) (Nat.lt_of_lt_of_le hgy HB.out)];exact q4
   have cb5:V1.cell? ⟨gy,oy+j*6+5,none⟩=some (.slice ay ny cy):=by rw[hbw1.cell (p:=⟨gy,oy+j*6+5,none⟩) (Nat.lt_of_lt_of_le hgy HB.out)];exact q5
   have e0:V2.cell? ⟨wr.heap.size,0,none⟩=some (.int .i64 k):=by simp[World.cell?,GA2.out]
   have e1:V2.cell? ⟨wr.heap.size,1,none⟩=some (.int .i64 a0):=by simp[World.cell?,GA2.out]
   have e2:V2.cell? ⟨wr.heap.size,2,none⟩=some (.bool e):=by simp[World.cell?,GA2.out]
   have e3:V2.cell? ⟨wr.heap.size,3,none⟩=some (.int .i64 o):=by simp[World.cell?,GA2.out]
   have e4:V2.cell? ⟨wr.heap.size,4,none⟩=some (.int .i64 m):=by simp[World.cell?,GA2.out]
   have e5:V2.cell? ⟨wr.heap.size,5,none⟩=some (.slice ax nx cx):=by simp[World.cell?,GA2.out]
   have f0:V2.cell? ⟨V1.heap.size,0,none⟩=some (.int .i64 k'):=by simp[World.cell?,GB.out]
   have f1:V2.cell? ⟨V1.heap.size,1,none⟩=some (.int .i64 b0):=by simp[World.cell?,GB.out]
   have f2:V2.cell? ⟨V1.heap.size,2,none⟩=some (.bool e'):=by simp[World.cell?,GB.out]
   have f3:V2.cell? ⟨V1.heap.size,3,none⟩=some (.int .i64 o'):=by simp[World.cell?,GB.out]
   have f4:V2.cell? ⟨V1.heap.size,4,none⟩=some (.int .i64 m'):=by simp[World.cell?,GB.out]
   have f5:V2.cell? ⟨V1.heap.size,5,none⟩=some (.slice ay ny cy):=by simp[World.cell?,GB.out]
   have hbw2:=(CF.out V2 BV2.out).2.2;have hcall:=Tryz.plainTerm_any _ s.c t.c _ _ _ _ V2 ((px.below (hbw2.mono HB.out))) ((qx.below (hbw2.mono HB.out))) (Nat.le_trans HB.out hbw2.size) hzs hzt;rw[ho,hm,ho',hm']at hcall
   have HC:Hid (Calls Tryz.prog 34 #[.agg #[.int .i64 o,.int .i64 m,.slice ax nx cx],.agg #[.int .i64 o',.int .i64 m',.slice ay ny cy]] V2 λe w'=>∃r,e=.returned (.bool r)/\Hid ((r=true↔s.c=t.c)/\Below W0.heap.size W0 w')):=hcall.mono λ_ _ q=>by
    obtain⟨⟨r,hr,hq⟩,hb⟩:=q;exact⟨r,hr,hq,BV2.out.trans (hb.mono BV2.out.size)⟩
   have HNO:Hid (¬s=t->¬(ns=ns'/\fs=fs')):=λh e=>h (by
    have h1:=HSN.out.2.1;have h2:=HSN.out.2.2;rw[<-h1,<-h2]
    simp only[e.2])
   clear p0 p1 p2 p3 p4 p5 q0 q1 q2 q3 q4 q5 px qx hs ht hzs hzt hnx hny hcall hbw hbw2 hV1 hV2 GA GA2 GB hk ha0 he ho hm hk' hb0 he' ho' hm' hbw1;obtain⟨⟨x0,x1⟩,⟨y0,y1⟩,-⟩:=CF.out wr HJ.out.1
   go_upto_region 15 with(refine wpList_store_row rfl 64 _ _ rfl wr.heap.size _ rfl rfl 64 #[.int .i64 0,.int .i64 0,.bool false,.int .i64 0,.int .i64 0,.slice none 0 0] (by exact HKA.out) (by kernel_rfl) rfl (by kernel_rfl) ?_)
   rw[HV1.out];clear x0 x1 y0 y1;obtain⟨⟨x0,x1⟩,⟨y0,y1⟩,-⟩:=CF.out V1 BV1.out
   go_upto_region 16 with(refine wpList_store_row rfl 64 _ _ rfl V1.heap.size _ rfl rfl 64 #[.int .i64 0,.int .i64 0,.bool false,.int .i64 0,.int .i64 0,.slice none 0 0] (by exact HKB.out) (by kernel_rfl) rfl (by kernel_rfl) ?_)
   rw[HV2.out];clear x0 x1 y0 y1 HV1 HV2 HKA HKB ca0 ca1 ca2 ca3 ca4 ca5 cb0 cb1 cb2 cb3 cb4 cb5;have HF2:Hid (Below w.heap.size w V2):=(CF.out V2 BV2.out).2.2
   by_cases c0:k=k'
   rotate_left
   ·have d0:(k !=k')=true:=by simpa using c0
    have HN0:Hid (¬k=k'):=c0;clear c0 HC;go_wp2;go_ret;exact⟨⟨false,rfl,by simp only[Bool.false_eq_true,false_iff];exact HNO.out (by rw[HSN.out.1];intro h;exact HN0.out h.1)⟩,HF2.out⟩
   have d0:(k !=k')=false:=by rw[c0];simp
   have HC0:Hid (k=k'):=c0
   by_cases c1:a0=b0
   rotate_left
   ·have d1:(a0 !=b0)=true:=by simpa using c1
    have HN1:Hid (¬a0=b0):=c1;clear c1 HC;go_wp2;go_ret;exact⟨⟨false,rfl,by simp only[Bool.false_eq_true,false_iff];exact HNO.out (by rw[HSN.out.1];intro h;exact HN1.out h.2.1)⟩,HF2.out⟩
   have d1:(a0 !=b0)=false:=by rw[c1];simp
   have HC1:Hid (a0=b0):=c1
   by_cases c2:e=e'
   rotate_left
   ·have d2:(e !=e')=true:=by simpa using c2
    have HN2:Hid (¬e=e'):=c2;clear c2 HC;go_wp2;go_ret;exact⟨⟨false,rfl,by simp only[Bool.false_eq_true,false_iff];exact HNO.out (by rw[HSN.out.1];intro h;exact HN2.out h.2.2.1)⟩,HF2.out⟩
   have d2:(e !=e')=false:=by rw[c2];simp
   have HC2:Hid (e=e'):=c2;clear c0 c1 c2
   go_wp2_with fail
   refine Calls.mono HC.out ?_;rintro e W3 ⟨r,rfl,X3⟩;clear HC e0 f0 e1 f1 e2 f2 e3 f3 e4 f4 e5 f5;have HF3:Hid (Below w.heap.size w W3):=(CF.out W3 X3.out.2).2.2
   cases r with
   |false=>
    go_wp2;go_ret;exact⟨⟨false,rfl,by simp only[Bool.false_eq_true,false_iff];exact HNO.out (by rw[HSN.out.1];intro h;have:=X3.out.1.2 h.2.2.2;simp at this)⟩,HF3.out⟩
   |true=>
    have HTK:Hid (fs.take (j+1)=fs'.take (j+1)):=by
     show _=_;rw[Tm.take_snoc _ _ hjx,Tm.take_snoc _ _ hjy,HJ.out.2,HSN.out.2.1,HSN.out.2.2,HSN.out.1.2 ⟨HC0.out,HC1.out,HC2.out,X3.out.1.1 (by first|rfl|trivial)⟩]
    have HB3:Hid (Below W0.heap.size W0 W3):=X3.out.2;go_wp2;go_roundg (gk-1)
    case measure=>omega
    case rel=>exact⟨j+1,by omega,by go_num,HB3.out,HTK.out⟩
end Go.Proofs
