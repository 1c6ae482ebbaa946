import Derived.Test.YtenaelpdnccgnaaGreatDoorQAcFormH
set_option maxRecDepth 100000
set_option maxHeartbeats 32000000
namespace Go.Proofs
open Go.RowKit Go.Shelf
theorem Ak.infoRAct:(Tryz.prog.info? 44).map (λi=>(i.zero,i.size,i.bytes))=some (some (.agg #[.int .i64 0,.int .i64 0,.int .i64 0,.int .i64 0,.int .i64 0,.int .i64 0,.slice none 0 0,.slice none 0 0,.slice none 0 0,.slice none 0 0,.slice none 0 0,.slice none 0 0]),12,192):=by kernel_rfl
theorem Ak.infoRLink:(Tryz.prog.info? 70).map (λi=>(i.zero,i.size,i.bytes))=some (some (.agg #[.int .i64 0,.int .i64 0]),2,16):=by kernel_rfl
theorem Ak.at_op2 {P:Program}{ops:Array Oper}{o:Oper}{a:Act}{w:World}{K:Act->World->Prop}{Q:Exit->Act->World->Prop}{E:Prop}(x:Op)(_hop:o.op=x)
 (h:if Region.wanted o (yielded ops a.tmps)=true then Oper.wp P o a w K Q else E):if Region.wanted o (yielded ops a.tmps)=true then Oper.wp P o a w K Q else E:=h
def Ak.RefC (d:Nat):Prop:=∀(B e:Nat) (T:Ac) (V:Ac.Vs) (w:World),B<=w.heap.size->Ac.Lies w B e d V T->T.size<=100000->T.All (λx=>x.ls.length<=100)->
 Calls Tryz.prog 13 #[.agg (Ac.row T V)] w λe' w'=>Below w.heap.size w w'/\∃U d',e'=.returned (.agg (Ac.row T U))/\Ac.LiesP w' B e (λk=>w.heap.size<=k/\k<w'.heap.size) d' U T
theorem Ak.refC:∀d:Nat,Ak.RefC d:=by
 intro d
 induction d with
 |zero=>intro B e T V w _ hT;exact hT.elim
 |succ d ih=>
  intro B e T V w hB hT hsz hlk;rw[T.all_eq]at hlk;have hown:=hT.own;obtain⟨al,cl,hvl,hat⟩:=hT.own.l;have HV0:=hT.shape;obtain⟨a6,c6,a7,c7,ak,ck,aa,ca,a10,c10,a11,c11,hV⟩:=HV0;obtain⟨n,hn⟩:=pE (T.ks.length);obtain⟨m,hm⟩:=pE (T.ls.length);obtain⟨n6,hn6⟩:=pE (T.t.ks.length);obtain⟨n7,hn7⟩:=pE (T.cs.length);obtain⟨n10,hn10⟩:=pE (T.ns.length);obtain⟨n11,hn11⟩:=pE (T.fs.length);rw[hn,hm,hn6,hn7,hn10,hn11]at hV;obtain⟨z0,hz0⟩:=pE (T.kind);obtain⟨z1,hz1⟩:=pE (T.node);obtain⟨z2,hz2⟩:=pE (T.a);obtain⟨z3,hz3⟩:=pE (T.b);obtain⟨z4,hz4⟩:=pE (T.t.op);obtain⟨z5,hz5⟩:=pE (T.t.num);have hrow:Ac.row T V=#[.int .i64 z0,.int .i64 z1,.int .i64 z2,.int .i64 z3,.int .i64 z4,.int .i64 z5,.slice a6 n6 c6,.slice a7 n7 c7,.slice ak n ck,.slice aa m ca,.slice a10 n10 c10,.slice a11 n11 c11]:=by unfold Ac.row;rw[hV,hz0,hz1,hz2,hz3,hz4,hz5]
  have hvar:∀vk vl,Ac.row T ⟨V.t,V.c,vk,vl,V.n,V.f⟩=#[.int .i64 z0,.int .i64 z1,.int .i64 z2,.int .i64 z3,.int .i64 z4,.int .i64 z5,.slice a6 n6 c6,.slice a7 n7 c7,vk,vl,.slice a10 n10 c10,.slice a11 n11 c11]:=λvk vl=>by unfold Ac.row;rw[hV,hz0,hz1,hz2,hz3,hz4,hz5]
  have hvk:V.k=.slice ak n ck:=by rw[hV]
  have hvl2:V.l=.slice aa m ca:=by rw[hV]
  rw[hvl2]at hvl;simp only[Value.slice.injEq]at hvl;obtain⟨rfl,-,rfl⟩:=hvl
  have hnb:n<=100000:=by
   have h1:=T.size_eq;have h2:=Ac.length_le_sizes T.ks;omega
  have hmb:m<=100:=by have:=hlk.1;omega
  rw[hrow];obtain⟨w0,hw0⟩:=pE (((w.alloc (.cells #[.int .i64 z0,.int .i64 z1,.int .i64 z2,.int .i64 z3,.int .i64 z4,.int .i64 z5,.slice a6 n6 c6,.slice a7 n7 c7,.slice ak n ck,.slice aa m ca,.slice a10 n10 c10,.slice a11 n11 c11] 32)).alloc (.cells #[.int .i64 0,.int .i64 0,.int .i64 0,.int .i64 0,.int .i64 0,.int .i64 0,.slice none 0 0,.slice none 0 0,.slice none 0 0,.slice none 0 0,.slice none 0 0,.slice none 0 0] 44)).alloc (.cells #[.int .i64 z0,.int .i64 z1,.int .i64 z2,.int .i64 z3,.int .i64 z4,.int .i64 z5,.slice a6 n6 c6,.slice a7 n7 c7,.slice none 0 0,.slice none 0 0,.slice a10 n10 c10,.slice a11 n11 c11] 44))
  have R0:Ak.Rf w B e #[.int .i64 z0,.int .i64 z1,.int .i64 z2,.int .i64 z3,.int .i64 z4,.int .i64 z5,.slice a6 n6 c6,.slice a7 n7 c7,.slice ak n ck,.slice aa m ca,.slice a10 n10 c10,.slice a11 n11 c11] T V (.slice none 0 0) (.slice none 0 0) [] [] w0:=by
   rw[<-hw0];refine⟨?_, ?_, ?_,World.ownsRow_nil _ _ _ _,World.ownsRow_nil _ _ _ _,(λq hq=>by cases hq),(((Below.refl _ w).alloc (Nat.le_refl _) _).alloc (by simp) _).alloc (by simp;omega) _⟩
   ·rw[Below.heap_alloc _ _ _ (by simp;omega),Below.heap_alloc _ _ _ (by simp)];exact heap_alloc_new w _
   ·rw[Below.heap_alloc _ _ _ (by simp)]
    have:=heap_alloc_new (w.alloc (.cells #[.int .i64 z0,.int .i64 z1,.int .i64 z2,.int .i64 z3,.int .i64 z4,.int .i64 z5,.slice a6 n6 c6,.slice a7 n7 c7,.slice ak n ck,.slice aa m ca,.slice a10 n10 c10,.slice a11 n11 c11] 32)) (.cells #[.int .i64 0,.int .i64 0,.int .i64 0,.int .i64 0,.int .i64 0,.int .i64 0,.slice none 0 0,.slice none 0 0,.slice none 0 0,.slice none 0 0,.slice none 0 0,.slice none 0 0] 44);simpa using this
   rw[hvar];have:=heap_alloc_new ((w.alloc (.cells #[.int .i64 z0,.int .i64 z1,.int .i64 z2,.int .i64 z3,.int .i64 z4,.int .i64 z5,.slice a6 n6 c6,.slice a7 n7 c7,.slice ak n ck,.slice aa m ca,.slice a10 n10 c10,.slice a11 n11 c11] 32)).alloc (.cells #[.int .i64 0,.int .i64 0,.int .i64 0,.int .i64 0,.int .i64 0,.int .i64 0,.slice none 0 0,.slice none 0 0,.slice none 0 0,.slice none 0 0,.slice none 0 0,.slice none 0 0] 44)) (.cells #[.int .i64 z0,.int .i64 z1,.int .i64 z2,.int .i64 z3,.int .i64 z4,.int .i64 z5,.slice a6 n6 c6,.slice a7 n7 c7,.slice none 0 0,.slice none 0 0,.slice a10 n10 c10,.slice a11 n11 c11] 44);simpa using this
  have HR0:Hid _:=R0;obtain⟨q0,q1⟩:w0.cell? ⟨w.heap.size,8,none⟩=some (.slice ak n ck)/\w0.cell? ⟨w.heap.size,9,none⟩=some (.slice aa m ca):=by have:=R0.box;simp[World.cell?,this]
  have HW0:Hid _:=hw0;have HT:Hid (Ac.Lies w B e (d+1) V T/\V.k=.slice ak n ck/\Ac.Own w B e V T/\B<=w.heap.size/\∀vk vl,Ac.row T ⟨V.t,V.c,vk,vl,V.n,V.f⟩=#[.int .i64 z0,.int .i64 z1,.int .i64 z2,.int .i64 z3,.int .i64 z4,.int .i64 z5,.slice a6 n6 c6,.slice a7 n7 c7,vk,vl,.slice a10 n10 c10,.slice a11 n11 c11]):=⟨hT,hvk,hown,hB,hvar⟩;have HAT:Hid (Ac.Lks w B aa T.ls):=hat;have HI:Hid (Ak.RefC d):=ih;have HM:Hid (T.ks.length=n/\T.ls.length=m/\T.size<=100000/\Ac.Alls (λx=>x.ls.length<=100) T.ks):=⟨hn,hm,hsz,hlk.2⟩;obtain⟨i0,hi,hy0,hy1,hy2⟩:=info_parts Ak.infoRLink;obtain⟨i1,hi1,hx0,hx1,hx2⟩:=info_parts Ak.infoRAct;clear ih hT hat hn hm hsz hlk hw0 R0 hown hV hn6 hn7 hn10 hn11 hz0 hz1 hz2 hz3 hz4 hz5 hrow hvar hvk hvl2 hB
  go_enter Tryz.func13,Tryz.ntmps13
  go_upto_region 2 with fail
  rw[HW0.out];go_wp2
  go_loopg [5,26] n (λgg _ i wr=>∃(j:Nat) (qs:List (Ac×Ac.Vs)) (vK:Value),gg+j=n/\i=.int .i64 j/\qs.length=j/\Hid (qs.map (·.1)=T.ks.take j/\Ak.Rf w B e #[.int .i64 z0,.int .i64 z1,.int .i64 z2,.int .i64 z3,.int .i64 z4,.int .i64 z5,.slice a6 n6 c6,.slice a7 n7 c7,.slice ak n ck,.slice aa m ca,.slice a10 n10 c10,.slice a11 n11 c11] T V vK (.slice none 0 0) qs [] wr))
  case atStart=>exact⟨0, [],.slice none 0 0,by omega,rfl,rfl,rfl,HR0.out⟩
  case round=>
   obtain⟨j,qs,vK,hg,rfl,hql,HJ⟩:=hrel;clear q0 q1;subst hql;obtain⟨avk,cvk,hvk⟩:=Ak.own_shape HJ.out.2.ownK;subst hvk
   by_cases hjn:qs.length<n
   ·have hd:decide ((qs.length:Int)<n)=true:=decide_eq_true (by omega)
    have hjk:qs.length<T.ks.length:=by rw[HM.out.1];exact hjn
    obtain⟨g,off,U,rfl,hgl,hrw,hlu⟩:=HT.out.1.kid HT.out.2.1 qs.length hjk;obtain⟨x,hx⟩:=pE (T.ks[qs.length]);have hxs:=Ac.sizes_get T.ks qs.length hjk;have hxl:=Ac.alls_get HM.out.2.2.2 qs.length hjk;rw[hx]at hrw hlu hxs hxl;obtain⟨y0,y1,y2,y3,y4,y5,y6,y7,y8,y9,y10,y11,hyr⟩:∃y0 y1 y2 y3 y4 y5 y6 y7 y8 y9 y10 y11,Ac.row x U=#[y0,y1,y2,y3,y4,y5,y6,y7,y8,y9,y10,y11]:=⟨_,_,_,_,_,_,_,_,_,_,_,_,rfl⟩;have hone:=hlu.ones;rw[hyr]at hrw hone;have hcb:∀o,wr.cell? ⟨g,o,none⟩=w.cell? ⟨g,o,none⟩:=λo=>World.cell?_of_block (w:=w) (HJ.out.2.below.block g (by have:=HT.out.2.2.2.1;omega))
    obtain⟨k0,k1,k2,k3,k4,k5,k6,k7,k8,k9,k10,k11⟩:wr.cell? ⟨g,off+qs.length*12,none⟩=some y0/\wr.cell? ⟨g,off+qs.length*12+1,none⟩=some y1/\wr.cell? ⟨g,off+qs.length*12+2,none⟩=some y2/\wr.cell? ⟨g,off+qs.length*12+3,none⟩=some y3/\wr.cell? ⟨g,off+qs.length*12+4,none⟩=some y4/\wr.cell? ⟨g,off+qs.length*12+5,none⟩=some y5/\wr.cell? ⟨g,off+qs.length*12+6,none⟩=some y6/\wr.cell? ⟨g,off+qs.length*12+7,none⟩=some y7/\wr.cell? ⟨g,off+qs.length*12+8,none⟩=some y8/\wr.cell? ⟨g,off+qs.length*12+9,none⟩=some y9/\wr.cell? ⟨g,off+qs.length*12+10,none⟩=some y10/\wr.cell? ⟨g,off+qs.length*12+11,none⟩=some y11:=⟨by rw[hcb];exact hrw 0 (by simp),by rw[hcb];exact hrw 1 (by simp),by rw[hcb];exact hrw 2 (by simp),by rw[hcb];exact hrw 3 (by simp),by rw[hcb];exact hrw 4 (by simp),by rw[hcb];exact hrw 5 (by simp),by rw[hcb];exact hrw 6 (by simp),by rw[hcb];exact hrw 7 (by simp),by rw[hcb];exact hrw 8 (by simp),by rw[hcb];exact hrw 9 (by simp),by rw[hcb];exact hrw 10 (by simp),by rw[hcb];exact hrw 11 (by simp)⟩
    have HK:Hid ((wr.alloc (.cells #[.int .i64 0,.int .i64 0,.int .i64 0,.int .i64 0,.int .i64 0,.int .i64 0,.slice none 0 0,.slice none 0 0,.slice none 0 0,.slice none 0 0,.slice none 0 0,.slice none 0 0] 32)).heap[wr.heap.size]? =some (.cells #[.int .i64 0,.int .i64 0,.int .i64 0,.int .i64 0,.int .i64 0,.int .i64 0,.slice none 0 0,.slice none 0 0,.slice none 0 0,.slice none 0 0,.slice none 0 0,.slice none 0 0] 32 (0,0))):=heap_alloc_new wr _;obtain⟨wa,hwa⟩:=pE ((wr.alloc (.cells #[.int .i64 0,.int .i64 0,.int .i64 0,.int .i64 0,.int .i64 0,.int .i64 0,.slice none 0 0,.slice none 0 0,.slice none 0 0,.slice none 0 0,.slice none 0 0,.slice none 0 0] 32)).setRow wr.heap.size #[y0,y1,y2,y3,y4,y5,y6,y7,y8,y9,y10,y11]);have hma:wa.heap[wr.heap.size]? =some (.cells #[y0,y1,y2,y3,y4,y5,y6,y7,y8,y9,y10,y11] 32 (0,0)):=by rw[<-hwa];exact setRow_heap _ _ _ _ _ _ HK.out
    have Aa:Below wr.heap.size wr wa:=by
     rw[<-hwa];exact((Below.refl _ wr).alloc (Nat.le_refl _) _).trans ⟨rfl,rfl,rfl,by simp[World.setRow],λk hk=>setRow_other _ _ _ _ (by omega)⟩
    obtain⟨m0,m1,m2,m3,m4,m5,m6,m7,m8,m9,m10,m11⟩:wa.cell? ⟨wr.heap.size,0,none⟩=some y0/\wa.cell? ⟨wr.heap.size,1,none⟩=some y1/\wa.cell? ⟨wr.heap.size,2,none⟩=some y2/\wa.cell? ⟨wr.heap.size,3,none⟩=some y3/\wa.cell? ⟨wr.heap.size,4,none⟩=some y4/\wa.cell? ⟨wr.heap.size,5,none⟩=some y5/\wa.cell? ⟨wr.heap.size,6,none⟩=some y6/\wa.cell? ⟨wr.heap.size,7,none⟩=some y7/\wa.cell? ⟨wr.heap.size,8,none⟩=some y8/\wa.cell? ⟨wr.heap.size,9,none⟩=some y9/\wa.cell? ⟨wr.heap.size,10,none⟩=some y10/\wa.cell? ⟨wr.heap.size,11,none⟩=some y11:=by simp[World.cell?,hma]
    have RA:Hid (Ak.Rf w B e #[.int .i64 z0,.int .i64 z1,.int .i64 z2,.int .i64 z3,.int .i64 z4,.int .i64 z5,.slice a6 n6 c6,.slice a7 n7 c7,.slice (some ⟨g,off,none⟩) n ck,.slice aa m ca,.slice a10 n10 c10,.slice a11 n11 c11] T V (.slice avk qs.length cvk) (.slice none 0 0) qs [] wa):=HJ.out.2.step HT.out.2.2.2.1 Aa;have s0:wa.cell? ⟨w.heap.size+1+1,8,none⟩=some (.slice avk qs.length cvk):=by have h:=RA.out.var;rw[HT.out.2.2.2.2]at h;simp[World.cell?,h]
    have hxw:x.size<=100000:=by have h2:=T.size_eq;have:=HM.out.2.2.1;omega
    have HCALL:Hid (∀W:World,W.heap=wa.heap->W.os=wa.os/\W.tape=wa.tape/\W.output=wa.output->Calls Tryz.prog 13 #[.agg #[y0,y1,y2,y3,y4,y5,y6,y7,y8,y9,y10,y11]] W λe' w'=>
      ∃u0 u1 u2 u3 u4 u5 u6 u7 u8 u9 u10 u11 U',Ac.row x U'=#[u0,u1,u2,u3,u4,u5,u6,u7,u8,u9,u10,u11]/\(∀u∈ [u0,u1,u2,u3,u4,u5,u6,u7,u8,u9,u10,u11],u.oneCell'=true)/\e'=.returned (.agg #[u0,u1,u2,u3,u4,u5,u6,u7,u8,u9,u10,u11])/\Ak.Rf w B e #[.int .i64 z0,.int .i64 z1,.int .i64 z2,.int .i64 z3,.int .i64 z4,.int .i64 z5,.slice a6 n6 c6,.slice a7 n7 c7,.slice (some ⟨g,off,none⟩) n ck,.slice aa m ca,.slice a10 n10 c10,.slice a11 n11 c11] T V (.slice avk qs.length cvk) (.slice none 0 0) qs [] w'/\
       ∃d',Ac.LiesP w' B e (Ak.Far w.heap.size w'.heap.size (.slice avk qs.length cvk) (.slice none 0 0)) d' U' x):=by
     intro W hh ho;have hbW:Below wa.heap.size wa W:=⟨ho.1,ho.2.1,ho.2.2,by rw[hh];exact Nat.le_refl _,λk _=>by rw[hh]⟩;have hsz:=RA.out.below.size;have h1:=HI.out B e x U W (by rw[hh];have:=HT.out.2.2.2.1;omega) (hlu.keep (λk hk=>by rw[hh];exact RA.out.below.block k (by have:=HT.out.2.2.2.1;omega))) hxw hxl;rw[hyr]at h1;refine h1.mono ?_;rintro e' w' ⟨hb,U',d',rfl,hl⟩;refine⟨_,_,_,_,_,_,_,_,_,_,_,_,U',rfl,by simpa [Ac.row]using hl.ones,rfl,(RA.out.step HT.out.2.2.2.1 hbW).step HT.out.2.2.2.1 hb,d',hl.keep (λ_ _=>rfl) (λ_ _=>rfl) λk hk=>⟨?_,hk.2, ?_, ?_⟩⟩
     ·have:=RA.out.lt;have h5:=hk.1;rw[hh]at h5;omega
     ·intro e
      have:=(Ak.row_lt RA.out.ownK e).2;have h5:=hk.1;rw[hh]at h5;omega
     simp[Value.ownBlock]
    have HU:Hid (wa.os=wa.os/\wa.tape=wa.tape/\wa.output=wa.output):=⟨rfl,rfl,rfl⟩;have HX:Hid (T.ks[qs.length]=x):=hx;have HWA:Hid _:=hwa;have HON:Hid (#[y0,y1,y2,y3,y4,y5,y6,y7,y8,y9,y10,y11].all (·.oneCell')=true):=hone
    have F4:Hid (∀W4:World,Ak.Rf w B e #[.int .i64 z0,.int .i64 z1,.int .i64 z2,.int .i64 z3,.int .i64 z4,.int .i64 z5,.slice a6 n6 c6,.slice a7 n7 c7,.slice (some ⟨g,off,none⟩) n ck,.slice aa m ca,.slice a10 n10 c10,.slice a11 n11 c11] T V (.slice avk qs.length cvk) (.slice none 0 0) qs [] W4->W4.cell? ⟨w.heap.size+1+1,8,none⟩=some (.slice avk qs.length cvk)/\w.heap.size+3<=W4.heap.size/\∀o,(W4.alloc o).cell? ⟨w.heap.size+1+1,8,none⟩=some (.slice avk qs.length cvk)):=λW4 h=>by
     have h1:=h.var;rw[HT.out.2.2.2.2]at h1;refine⟨by simp[World.cell?,h1],h.lt,λo=> ?_⟩;have h2:=(h.step HT.out.2.2.2.1 ((Below.refl _ W4).alloc (Nat.le_refl _) o)).var;rw[HT.out.2.2.2.2]at h2;simp[World.cell?,h2]
    have F6:Hid (∀(W4 W6:World) (o:Obj),Ak.Rf w B e #[.int .i64 z0,.int .i64 z1,.int .i64 z2,.int .i64 z3,.int .i64 z4,.int .i64 z5,.slice a6 n6 c6,.slice a7 n7 c7,.slice (some ⟨g,off,none⟩) n ck,.slice aa m ca,.slice a10 n10 c10,.slice a11 n11 c11] T V (.slice avk qs.length cvk) (.slice none 0 0) qs [] W4->(W4.alloc o).grownBy W6 (Value.slice avk qs.length cvk).ownBlock->W6.cell? ⟨w.heap.size+1+1,8,none⟩=some (.slice avk qs.length cvk)/\W6.frozen? ⟨w.heap.size+1+1,8,none⟩=false):=λW4 W6 o h hg6=>by
     have h1:=(h.step HT.out.2.2.2.1 ((Below.refl _ W4).alloc (Nat.le_refl _) o)).midK hg6;rw[HT.out.2.2.2.2]at h1;exact⟨by simp[World.cell?,h1],by simp[World.frozen?,h1]⟩
    have lg:g<wr.heap.size:=by have:=HJ.out.2.below.size;have:=HT.out.2.2.2.1;omega
    clear hcb hrw hlu hx hxs hxl hwa Aa hma hxw hyr hone
    go_upto_region 5 with(refine wpList_store_row rfl 32 _ _ rfl wr.heap.size #[y0,y1,y2,y3,y4,y5,y6,y7,y8,y9,y10,y11] rfl rfl 32 _ HK.out (by kernel_rfl) rfl HON.out ?_)
    rw[HWA.out];clear k0 k1 k2 k3 k4 k5 k6 k7 k8 k9 k10 k11 HK HON HWA
    go_region_law (first
     |(go_simp;go_at_call 13;refine Calls.mono (HCALL.out _ ?_ ?_) ?_;exact rfl;exact HU.out;rintro e' W4 ⟨u0,u1,u2,u3,u4,u5,u6,u7,u8,u9,u10,u11,U4,hu4,ho4,rfl,r4,l4⟩;obtain⟨t4,t5,t6⟩:=F4.out W4 r4)
     |((with_reducible refine Ak.at_op2 (Op.call {callee:=Callee.builtin Builtin.append,args:=#[.tmp 31,.tmp 34],argTypes:=#[41,41]}) ?hop ?_);(case hop=>with_reducible rfl);go_loud (refine step_append_lies _ rfl (.tmp 31) (.tmp 34) 41 rfl (w.heap.size+3) 44 i1 _ 12 192 Tryz.underlying41 hi1 hx0 hx1 hx2 rfl (by decide) (.slice avk qs.length cvk) qs.length (Ak.kCells qs) (by simp[Act.eval]) (by exact(r4.step HT.out.2.2.2.1 ((Below.refl _ W4).alloc (Nat.le_refl _) (.cells #[u0,u1,u2,u3,u4,u5,u6,u7,u8,u9,u10,u11] 44))).ownK) ⟨W4.heap.size,0,none⟩ 1 1 [u0,u1,u2,u3,u4,u5,u6,u7,u8,u9,u10,u11] (by simp[Act.eval]) rfl (by exact World.news_of_block (heap_alloc_new W4 (.cells #[u0,u1,u2,u3,u4,u5,u6,u7,u8,u9,u10,u11] 44))) (by exact ho4) (by decide) (by unfold maxLen;omega) (by omega) (by simp;omega) (W4.heap.size+1) (by simp) ?_);intro g6 c6' W6 o6 qq6 hg6 hl6;obtain⟨b0,b1⟩:=F6.out W4 W6 _ r4 (by exact⟨qq6.os,qq6.tape,qq6.output,qq6.size,qq6.block⟩))
     |fail)
    all_goals
     have RN:Hid (Ak.Rf w B e #[.int .i64 z0,.int .i64 z1,.int .i64 z2,.int .i64 z3,.int .i64 z4,.int .i64 z5,.slice a6 n6 c6,.slice a7 n7 c7,.slice (some ⟨g,off,none⟩) n ck,.slice aa m ca,.slice a10 n10 c10,.slice a11 n11 c11] T V (.slice (some ⟨g6,0,none⟩) (qs.length+1) c6') (.slice none 0 0) (qs++ [(x,U4)]) [] (W6.setCell ⟨w.heap.size+1+1,8,none⟩ (.slice (some ⟨g6,0,none⟩) (qs.length+1) c6'))):=by
      have A4:Below W4.heap.size W4 (W4.alloc (.cells #[u0,u1,u2,u3,u4,u5,u6,u7,u8,u9,u10,u11] 44)):=(Below.refl _ W4).alloc (Nat.le_refl _) _;obtain⟨d',hl⟩:=l4;have hb4:=r4.below.size;exact Ak.Rf.kid (x:=x) (U:=U4) (H:=W4.heap.size+1) (r4.step HT.out.2.2.2.1 A4) HT.out.2.2.2.1 ⟨d',hl.keep (λk hk=>A4.block k (by have:=HT.out.2.2.2.1;omega)) (λk hk=>A4.block k hk.2.1) λk hk=>⟨hk.1,Nat.lt_of_lt_of_le hk.2.1 A4.size,hk.2.2⟩⟩ (by simp) (by rw[hu4];exact o6) ⟨qq6.os,qq6.tape,qq6.output,qq6.size,qq6.block⟩ hg6
     have HQ:Hid ((qs++ [(x,U4)]).map (·.1)=T.ks.take (qs.length+1)):=by
      show _=_;rw[List.take_succ_eq_append_getElem hjk,List.map_append,HJ.out.1,HX.out];rfl
     clear r4 l4 t4 t5 t6 o6 qq6 hg6 hl6 b0 b1 hu4 ho4;go_wp2;go_roundg (gk-1)
     case measure=>omega
     case rel=>exact⟨qs.length+1,_,_,by omega,by go_num,by simp,HQ.out,RN.out⟩
   have hd:decide ((qs.length:Int)<n)=false:=decide_eq_false (by omega);have hall:qs.map (·.1)=T.ks:=HJ.out.1.trans (List.take_of_length_le (by rw[HM.out.1];omega));have hlen:qs.length=n:=by rw[<-HM.out.1,<-hall];simp
   have HF0:Hid (Ak.Rf w B e #[.int .i64 z0,.int .i64 z1,.int .i64 z2,.int .i64 z3,.int .i64 z4,.int .i64 z5,.slice a6 n6 c6,.slice a7 n7 c7,.slice ak n ck,.slice aa m ca,.slice a10 n10 c10,.slice a11 n11 c11] T V (.slice avk qs.length cvk) (.slice none 0 0) qs [] wr):=HJ.out.2;have HALL:Hid (qs.map (·.1)=T.ks/\qs.length=n):=⟨hall,hlen⟩;have q2:wr.cell? ⟨w.heap.size,9,none⟩=some (.slice aa m ca):=by have:=HF0.out.box;simp[World.cell?,this]
   clear hall hlen HJ hg;go_wp2
   go_loopg [7,41] m (λgg _ i wr=>∃(k:Nat) (ys:List (Int×Int)) (vb:Value),gg+k=m/\i=.int .i64 k/\ys.length=k/\Hid (ys=T.ls.take k/\Ak.Rf w B e #[.int .i64 z0,.int .i64 z1,.int .i64 z2,.int .i64 z3,.int .i64 z4,.int .i64 z5,.slice a6 n6 c6,.slice a7 n7 c7,.slice ak n ck,.slice aa m ca,.slice a10 n10 c10,.slice a11 n11 c11] T V (.slice avk qs.length cvk) vb qs ys wr))
   case atStart=>exact⟨0, [],.slice none 0 0,by omega,rfl,rfl,rfl,HF0.out⟩
   case round=>
    obtain⟨k,ys,vb,hg,rfl,hyl,HL⟩:=hrel;clear q2;subst hyl;obtain⟨av,cv,hva⟩:=Ak.own_shape HL.out.2.ownL;subst hva
    by_cases hk:ys.length<m
    rotate_left
    ·have hd2:decide ((ys.length:Int)<m)=false:=decide_eq_false (by omega)
     have hall:ys=T.ls:=HL.out.1.trans (List.take_of_length_le (by rw[HM.out.2.1];omega));subst hall;have hu:=Tryz.underlying44;have HR:Hid (Ak.Rf w B e #[.int .i64 z0,.int .i64 z1,.int .i64 z2,.int .i64 z3,.int .i64 z4,.int .i64 z5,.slice a6 n6 c6,.slice a7 n7 c7,.slice ak n ck,.slice aa m ca,.slice a10 n10 c10,.slice a11 n11 c11] T V (.slice avk qs.length cvk) (.slice av T.ls.length cv) qs T.ls wr):=HL.out.2;have HEl:Hid (∃d',Ac.LiesP wr B e (λk=>w.heap.size+3<=k/\k<wr.heap.size) d' ⟨V.t,V.c,.slice avk qs.length cvk,.slice av T.ls.length cv,V.n,V.f⟩ T):=Ak.Rf.all HR.out HT.out.2.2.2.1 HALL.out.1 HT.out.2.2.1;have hv:=HR.out.var;have hr:=HR.out.res;rw[HT.out.2.2.2.2]at hv;have ir:(Tryz.prog.info? 44).map (·.size)=some (#[.int .i64 z0,.int .i64 z1,.int .i64 z2,.int .i64 z3,.int .i64 z4,.int .i64 z5,.slice a6 n6 c6,.slice a7 n7 c7,.slice avk qs.length cvk,.slice av T.ls.length cv,.slice a10 n10 c10,.slice a11 n11 c11]:Array Value).size:=Ak.rinfo;have or_:(#[.int .i64 z0,.int .i64 z1,.int .i64 z2,.int .i64 z3,.int .i64 z4,.int .i64 z5,.slice a6 n6 c6,.slice a7 n7 c7,.slice avk qs.length cvk,.slice av T.ls.length cv,.slice a10 n10 c10,.slice a11 n11 c11]:Array Value).all (·.oneCell')=true:=by simp[Value.oneCell']
     clear HL
     go_wp2_with (first
      |refine wpList_load_row rfl 44 _ rfl _ rfl 44 _ (0,0) _ hv hu rfl ir ?_
      |refine wpList_store_row rfl 44 _ _ rfl (w.heap.size+1) #[.int .i64 z0,.int .i64 z1,.int .i64 z2,.int .i64 z3,.int .i64 z4,.int .i64 z5,.slice a6 n6 c6,.slice a7 n7 c7,.slice avk qs.length cvk,.slice av T.ls.length cv,.slice a10 n10 c10,.slice a11 n11 c11] rfl rfl 44 _ hr ir rfl or_ ?_)
     refine bodyPost_ret (v:=.agg #[.int .i64 z0,.int .i64 z1,.int .i64 z2,.int .i64 z3,.int .i64 z4,.int .i64 z5,.slice a6 n6 c6,.slice a7 n7 c7,.slice avk qs.length cvk,.slice av T.ls.length cv,.slice a10 n10 c10,.slice a11 n11 c11]) (results_cell_row Tryz.results13 _ _ (w.heap.size+1) 44 #[.int .i64 z0,.int .i64 z1,.int .i64 z2,.int .i64 z3,.int .i64 z4,.int .i64 z5,.slice a6 n6 c6,.slice a7 n7 c7,.slice avk qs.length cvk,.slice av T.ls.length cv,.slice a10 n10 c10,.slice a11 n11 c11] (0,0) _ rfl (setRow_heap _ _ _ _ _ _ hr) hu rfl ir) rfl ⟨?_, ?_⟩
     ·exact Tk.below_row HR.out.below (by omega) _
     obtain⟨d',hl⟩:=HEl.out;refine⟨⟨V.t,V.c,.slice avk qs.length cvk,.slice av T.ls.length cv,V.n,V.f⟩,d',by rw[HT.out.2.2.2.2], ?_⟩;refine hl.keep (λk hk=>setRow_other _ _ _ _ (by have:=HT.out.2.2.2.1;omega)) (λk hk=>setRow_other _ _ _ _ (by have:=hk.1;omega)) λk hk=>⟨by have:=hk.1;omega,by have:=hk.2;simpa [World.setRow]using this⟩
    have hd2:decide ((ys.length:Int)<m)=true:=decide_eq_true (by omega);have hkm:ys.length<T.ls.length:=by rw[HM.out.2.1];exact hk
    obtain⟨g,off,rfl,hgl,k0,k1⟩:=HAT.out ys.length hkm;obtain⟨x,hx⟩:=pE (T.ls[ys.length]);rw[hx]at k0 k1;have hgw:g<w.heap.size:=by have:=HT.out.2.2.2.1;omega
    have hcb:∀o,wr.cell? ⟨g,o,none⟩=w.cell? ⟨g,o,none⟩:=λo=>World.cell?_of_block (w:=w) (HL.out.2.below.block g hgw);have hc0:wr.cell? ⟨g,off+ys.length*2,none⟩=some (.int .i64 x.1):=by rw[hcb];exact k0
    have hc1:wr.cell? ⟨g,off+ys.length*2+1,none⟩=some (.int .i64 x.2):=by rw[hcb];exact k1
    have hob:=HL.out.2.var;rw[HT.out.2.2.2.2]at hob;have co:wr.cell? ⟨w.heap.size+1+1,9,none⟩=some (.slice av ys.length cv):=by simp[World.cell?,hob]
    have hzf:=HL.out.2.lt;have HF1:=HL.out.2.step HT.out.2.2.2.1 ((Below.refl _ wr).alloc (Nat.le_refl _) (.cells #[.int .i64 x.1,.int .i64 x.2] 69));have own3:=HF1.ownL;have HX:Hid (T.ls[ys.length]=x):=hx;have lg:g<wr.heap.size:=by omega
    clear k0 k1 hob hx hcb
    go_wp2_with (at_builtin;refine wpList_append_lies _ rfl _ _ 42 rfl (w.heap.size+3) 70 i0 _ 2 16 Tryz.underlying42 hi hy0 hy1 hy2 rfl (by decide) _ _ _ rfl (own3.alloc _) ⟨wr.heap.size+1,0,none⟩ 1 1 [.int .i64 x.1,.int .i64 x.2] rfl rfl ?c1 ?c2 (by decide) ?c3 ?c4 ?c5 (wr.heap.size+2) ?c6 ?_)
    case c1=>
     intro j u hj
     match j,hj with
     |0,hj=>simp at hj;subst hj;simp[Addr.add]
     |1,hj=>simp at hj;subst hj;simp[Addr.add]
    case c2=>intro u hu;simp at hu;rcases hu with rfl|rfl<;>rfl
    case c3=>unfold maxLen;omega
    case c4=>omega
    case c5=>simp;omega
    case c6=>simp
    intro g6 c6' W6 o6 q6 hg6 hl6;have HF2:=HF1.step HT.out.2.2.2.1 ((Below.refl _ _).alloc (Nat.le_refl _) (.cells #[.int .i64 x.1,.int .i64 x.2] 70));have m6:=HF2.midL q6;rw[HT.out.2.2.2.2]at m6;have z6:w.heap.size+1+1<W6.heap.size:=(Array.getElem?_eq_some_iff.1 m6).1;have k60:W6.cell? ⟨w.heap.size+1+1,9,none⟩=some (.slice av ys.length cv):=by simp[World.cell?,m6]
    have k61:W6.frozen? ⟨w.heap.size+1+1,9,none⟩=false:=by simp[World.frozen?,m6]
    have P6:Hid (ys++ [x]=T.ls.take (ys.length+1)/\Ak.Rf w B e #[.int .i64 z0,.int .i64 z1,.int .i64 z2,.int .i64 z3,.int .i64 z4,.int .i64 z5,.slice a6 n6 c6,.slice a7 n7 c7,.slice ak n ck,.slice (some ⟨g,off,none⟩) m ca,.slice a10 n10 c10,.slice a11 n11 c11] T V (.slice avk qs.length cvk) (.slice (some ⟨g6,0,none⟩) (ys.length+1) c6') qs (ys++ [x]) (W6.setCell ⟨w.heap.size+1+1,9,none⟩ (.slice (some ⟨g6,0,none⟩) (ys.length+1) c6'))):=by
     refine⟨?_,Ak.Rf.link (H:=wr.heap.size+2) HF2 HT.out.2.2.2.1 (by simp) o6 q6 hg6⟩;rw[List.take_succ_eq_append_getElem hkm,HX.out,<-HL.out.1]
    clear m6 o6 q6 own3 HF1 HF2 hg6 hl6;go_wp2;go_roundg (gk-1)
    case measure=>omega
    case rel=>exact⟨ys.length+1,_,_,by omega,by go_num,by simp,P6.out⟩
end Go.Proofs
