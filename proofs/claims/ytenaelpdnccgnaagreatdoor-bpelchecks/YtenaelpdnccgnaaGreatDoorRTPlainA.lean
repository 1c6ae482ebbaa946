import Derived.Test.YtenaelpdnccgnaaGreatDoorRPBase
import Derived.Test.YtenaelpdnccgnaaGreatDoorRTmModel
import Derived.Lib.Hide
import Derived.Deep.DeepCutAuto
set_option maxRecDepth 100000
set_option maxHeartbeats 32000000
namespace Go.Proofs
open Go.RowKit
theorem Tryz.plainTerm_any:∀(d:Nat) (S T:Tm) (va vb:Value) (d' B:Nat) (w:World),Tm.Lies w B d va S->Tm.Lies w B d' vb T->B<=w.heap.size->S.size<=2147483647->T.size<=2147483647->
  Calls Tryz.prog 34 #[.agg #[.int .i64 S.op,.int .i64 S.num,va],.agg #[.int .i64 T.op,.int .i64 T.num,vb]] w λe w'=>(∃r,e=.returned (.bool r)/\(r=true↔S=T))/\Below w.heap.size w w':=by
 intro d
 induction d with
 |zero=>intro S T va vb d' B w h;exact h.elim
 |succ d ih=>
  intro S T va vb d' B w hA hB hBs hsz hszT
  cases d' with
  |zero=>exact hB.elim
  |succ d'=>
  obtain⟨a,ca,rfl⟩:=hA.shape;obtain⟨b,cb,rfl⟩:=hB.shape;obtain⟨o,ho⟩:=pE (S.op);obtain⟨m,hm⟩:=pE (S.num);obtain⟨n,hn⟩:=pE (S.ks.length);obtain⟨o',ho'⟩:=pE (T.op);obtain⟨m',hm'⟩:=pE (T.num);obtain⟨n',hn'⟩:=pE (T.ks.length);have hn2:n<=2147483647:=by have:=Tm.length_le_sizes S.ks;have:=S.size_eq;omega
  have hn2':n'<=2147483647:=by have:=Tm.length_le_sizes T.ks;have:=T.size_eq;omega
  rw[ho,hm,hn,ho',hm',hn'];rw[hn]at hA;rw[hn']at hB;obtain⟨w0,hw0⟩:∃w0,w0=(w.alloc (.cells #[.int .i64 o,.int .i64 m,.slice a n ca] 24)).alloc (.cells #[.int .i64 o',.int .i64 m',.slice b n' cb] 24):=⟨_,rfl⟩;have A0:Hid (Below w.heap.size w w0):=by rw[hw0];exact((Below.refl _ w).alloc (Nat.le_refl _) _).alloc (by simp) _
  have AW:Hid (Below w.heap.size w ((w.alloc (.cells #[.int .i64 o,.int .i64 m,.slice a n ca] 24)).alloc (.cells #[.int .i64 o',.int .i64 m',.slice b n' cb] 24))):=((Below.refl _ w).alloc (Nat.le_refl _) _).alloc (by simp) _
  have HNE:Hid ((o≠o'∨m≠m'∨n≠n')->¬S=T):=λh e=>by
   subst e;rw[ho]at ho';rw[hm]at hm';rw[hn]at hn';omega
  by_cases h1:o=o'
  rotate_left
  ·have e1:(o==o')=false:=by simpa using h1
   have HN:Hid (¬S=T):=HNE.out (.inl h1);clear ih hA hB ho hm hn hw0 hBs hsz hszT ho' hm' hn' HNE A0
   go_enter Tryz.func34,Tryz.ntmps34
   go_wp2;go_ret;exact⟨⟨false,rfl,⟨λh=>by simp at h,λh=>absurd h HN.out⟩⟩,AW.out⟩
  by_cases h2:m=m'
  rotate_left
  ·have e2:(m==m')=false:=by simpa using h2
   have HN:Hid (¬S=T):=HNE.out (.inr (.inl h2));subst h1;clear ih hA hB ho hm hn hw0 hBs hsz hszT ho' hm' hn' HNE A0
   go_enter Tryz.func34,Tryz.ntmps34
   go_wp2;go_ret;exact⟨⟨false,rfl,⟨λh=>by simp at h,λh=>absurd h HN.out⟩⟩,AW.out⟩
  by_cases h3:n=n'
  rotate_left
  ·have e3:((n:Int)==(n':Int))=false:=by simp;omega
   have HN:Hid (¬S=T):=HNE.out (.inr (.inr h3));subst h1 h2;clear ih hA hB ho hm hn hw0 hBs hsz hszT ho' hm' hn' h3 HNE A0
   go_enter Tryz.func34,Tryz.ntmps34
   go_wp2;go_ret;exact⟨⟨false,rfl,⟨λh=>by simp at h,λh=>absurd h HN.out⟩⟩,AW.out⟩
  subst h1 h2 h3;have HA:Hid (Tm.Lies w B (d+1) (.slice a n ca) S):=hA;have HB:Hid (Tm.Lies w B (d'+1) (.slice b n cb) T):=hB;have HI:Hid _:=ih;have HM:Hid (S.ks.length=n/\B<=w.heap.size/\S.size<=2147483647/\T.ks.length=n/\T.size<=2147483647/\(S=T↔S.ks=T.ks)):=⟨hn,hBs,hsz,hn',hszT,by rw[Tm.eq_iff,ho,hm,ho',hm'];simp⟩;have S0:Hid (w0.heap.size=w.heap.size+2):=by show _=_;rw[hw0];simp
  have C0:Hid (w0.heap[w.heap.size]? =some (.cells #[.int .i64 o,.int .i64 m,.slice a n ca] 24 (0,0))):=by show _=_;rw[hw0,Below.heap_alloc _ _ _ (by simp)];exact heap_alloc_new w _
  have C1:Hid (w0.heap[w.heap.size+1]? =some (.cells #[.int .i64 o,.int .i64 m,.slice b n cb] 24 (0,0))):=by
   show _=_;rw[hw0];have:=heap_alloc_new (w.alloc (.cells #[.int .i64 o,.int .i64 m,.slice a n ca] 24)) (.cells #[.int .i64 o,.int .i64 m,.slice b n cb] 24);simpa using this
  have HW0:Hid (w0=_):=hw0;clear ih hA hB ho hm hn hw0 hBs hsz hszT ho' hm' hn'
  go_enter Tryz.func34,Tryz.ntmps34
  go_wp2
  go_loopg [30] n (λg i wr=>∃j:Nat,g+j=n/\i=.int .i64 j/\Hid (Below w0.heap.size w0 wr/\S.ks.take j=T.ks.take j))
  case atStart=>exact⟨0,by omega,rfl,by rw[HW0.out];exact Below.refl _ _,by simp⟩
  case round=>
   obtain⟨j,hj,rfl,HJ⟩:=hrel
   by_cases hjn:j<n
   rotate_left
   ·go_wp2
    go_ret;refine⟨⟨true,rfl,⟨λ_=> ?_,λ_=>rfl⟩⟩,A0.out.trans (HJ.out.1.mono A0.out.size)⟩;have h:=HJ.out.2;rw[List.take_of_length_le (by rw[HM.out.1];omega),List.take_of_length_le (by rw[HM.out.2.2.2.1];omega)]at h;exact HM.out.2.2.2.2.2.2 h
   have hjk:j<S.ks.length:=by rw[HM.out.1];exact hjn
   have hjk':j<T.ks.length:=by rw[HM.out.2.2.2.1];exact hjn
   have hxs:=Tm.sizes_get S.ks j hjk;have hts:=S.size_eq;have hxs':=Tm.sizes_get T.ks j hjk';have hts':=T.size_eq;obtain⟨g,off,u,rfl,hg,q0,q1,q2,q3⟩:=HA.out.kid j hjk;obtain⟨g',off',u',rfl,hg',p0,p1,p2,p3⟩:=HB.out.kid j hjk';obtain⟨x,hx⟩:=pE (S.ks[j]);obtain⟨y,hy⟩:=pE (T.ks[j]);rw[hx]at q0 q1 q3 hxs;rw[hy]at p0 p1 p3 hxs';obtain⟨au,cu,rfl⟩:=q3.shape;obtain⟨bu,du,rfl⟩:=p3.shape;obtain⟨nx,hnx⟩:=pE (x.ks.length);obtain⟨ny,hny⟩:=pE (y.ks.length);rw[hnx]at q2 q3;rw[hny]at p2 p3;obtain⟨x0,hx0⟩:=pE (x.op);obtain⟨x1,hx1⟩:=pE (x.num);obtain⟨y0,hy0⟩:=pE (y.op);obtain⟨y1,hy1⟩:=pE (y.num);rw[hx0]at q0;rw[hx1]at q1;rw[hy0]at p0;rw[hy1]at p1;have hs0:=S0.out;have hbs:=HM.out.2.1;have hbw:Below w.heap.size w wr:=A0.out.trans (HJ.out.1.mono (by omega));have hc:∀g p,g<B->wr.cell? ⟨g,p,none⟩=w.cell? ⟨g,p,none⟩:=λg p hg=>hbw.cell (p:=⟨g,p,none⟩) (by show g<_;omega);have hc0:wr.cell? ⟨g,off+j*3,none⟩=some (.int .i64 x0):=by rw[hc _ _ hg];exact q0
   have hc1:wr.cell? ⟨g,off+j*3+1,none⟩=some (.int .i64 x1):=by rw[hc _ _ hg];exact q1
   have hc2:wr.cell? ⟨g,off+j*3+2,none⟩=some (.slice au nx cu):=by rw[hc _ _ hg];exact q2
   have hd0:wr.cell? ⟨g',off'+j*3,none⟩=some (.int .i64 y0):=by rw[hc _ _ hg'];exact p0
   have hd1:wr.cell? ⟨g',off'+j*3+1,none⟩=some (.int .i64 y1):=by rw[hc _ _ hg'];exact p1
   have hd2:wr.cell? ⟨g',off'+j*3+2,none⟩=some (.slice bu ny du):=by rw[hc _ _ hg'];exact p2
   obtain⟨⟨_,_,va2⟩,_⟩:=Tk.row3 ((HJ.out.1.block _ (by omega)).trans C0.out);obtain⟨⟨_,_,vb2⟩,_⟩:=Tk.row3 ((HJ.out.1.block _ (by omega)).trans C1.out)
   have HC:Hid (∀W,Below w0.heap.size w0 W->Calls Tryz.prog 34 #[.agg #[.int .i64 x0,.int .i64 x1,.slice au nx cu],.agg #[.int .i64 y0,.int .i64 y1,.slice bu ny du]] W λe w'=>∃r,e=.returned (.bool r)/\(r=true↔x=y)/\Below w0.heap.size w0 w'):=λW hW=>by
    have hbW:Below w.heap.size w W:=A0.out.trans (hW.mono (by omega));have:=HI.out x y (.slice au nx cu) (.slice bu ny du) d' B W (q3.keep λk hk=>hbW.block k (by omega)) (p3.keep λk hk=>hbW.block k (by omega)) (by have:=hbW.size;omega) (by have:=HM.out;omega) (by have:=HM.out;omega);rw[hx0,hx1,hy0,hy1]at this;exact this.mono λe w' ⟨⟨r,he,hr⟩,hb⟩=>⟨r,he,hr,hW.trans (hb.mono hW.size)⟩
   have HXY:Hid (S.ks[j]=x/\T.ks[j]=y):=⟨hx,hy⟩;clear hc q0 q1 q2 q3 p0 p1 p2 p3 hx hy hx0 hx1 hy0 hy1 hnx hny hbw hxs hts hxs' hts' hg hg' hs0 hbs
   go_upto_region 6 with fail
   go_region_with (first|(go_at_call 34;refine Calls.mono (HC.out _ (by first|exact HJ.out.1|exact Tk.below_drewN HJ.out.1 _)) ?_;rintro e W3 ⟨r,rfl,hr,b3⟩)|fail)
   all_goals
    have B3:Hid (Below w0.heap.size w0 W3):=b3;have HR:Hid (r=true↔x=y):=hr;clear b3 hr HC
    cases r
    ·go_wp2
     go_ret;refine⟨⟨false,rfl,⟨λh=>by simp at h,λh=> ?_⟩⟩,A0.out.trans (B3.out.mono A0.out.size)⟩;have hk:=HM.out.2.2.2.2.2.1 h
     have hxy:x=y:=by
      rw[<-HXY.out.1,<-HXY.out.2];simp only[hk]
     exact HR.out.2 hxy
    have HN:Hid (S.ks.take (j+1)=T.ks.take (j+1)):=by
     show _=_;rw[Tm.take_snoc _ _ hjk,Tm.take_snoc _ _ hjk',HJ.out.2,HXY.out.1,HXY.out.2,HR.out.1 rfl]
    go_wp2;go_roundg (gk-1)
    case measure=>omega
    case rel=>exact⟨j+1,by omega,by go_num,B3.out,HN.out⟩
end Go.Proofs
