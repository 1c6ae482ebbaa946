import Derived.Test.YtenaelpdnccgnaaGreatDoorQAcPairs
import Derived.Test.YtenaelpdnccgnaaGreatDoorQAllNtOne
set_option maxRecDepth 100000
set_option maxHeartbeats 32000000
namespace Go.Proofs
open Go.RowKit Go.Shelf
theorem Tryz.aequalFunc_any {g:Nat}{lb:Array Value}(eg:∀args w,(callFunc g args).run Tryz.prog w=.ok (.enter g args) w)(S T:Ac)(U V:Ac.Vs)(a b:Option Addr)(ca cb B e e' d d':Nat)(w:World)(Inv:Nat->World->Prop)
  (hS:Ac.Lies w B e (d+1) U S) (hUk:U.k=.slice a S.ks.length ca) (hT:Ac.Lies w B e' (d'+1) V T) (hVk:V.k=.slice b T.ks.length cb) (hI0:Inv 0 w) (hk:∀j W,Inv j W->(∀i,i<B->W.heap[i]? =w.heap[i]?)/\B<=W.heap.size) (hbl:∀j W W',Inv j W->Below W.heap.size W W'->Inv j W') (hsm:S.ks.length<=2147483647)
  (hc:∀j (hx:j<S.ks.length) (hy:j<T.ks.length) (W:World) (U' V':Ac.Vs),Inv j W->Ac.Lies w B e d U' S.ks[j]->Ac.Lies w B e' d' V' T.ks[j]->Calls Tryz.prog g (#[.agg (Ac.row S.ks[j] U'),.agg (Ac.row T.ks[j] V')]++lb) W λe w'=>∃r,e=.returned (.bool r)/\(r=true↔S.ks[j]=T.ks[j])/\Inv (j+1) w'):
  Calls Tryz.prog 88 #[.slice a S.ks.length ca,.slice b T.ks.length cb,.func (.func g) #[] lb] w λe w'=>∃j,Ak.Told (S.ks=T.ks) e/\Inv j w':=by
 obtain⟨n,hn⟩:=pE (S.ks.length);obtain⟨m,hm⟩:=pE (T.ks.length);have HX:Hid (Ac.Lies w B e (d+1) U S/\Ac.Lies w B e' (d'+1) V T/\S.ks.length=n/\T.ks.length=m/\Inv 0 w/\U.k=.slice a n ca/\V.k=.slice b m cb):=⟨hS,hT,hn,hm,hI0,by rw[hUk,hn],by rw[hVk,hm]⟩;have HK:Hid ((∀j W,Inv j W->(∀i,i<B->W.heap[i]? =w.heap[i]?)/\B<=W.heap.size)/\(∀j W W',Inv j W->Below W.heap.size W W'->Inv j W')):=⟨hk,hbl⟩;have HC:Hid _:=hc;rw[hn]at hsm;rw[hn,hm];clear hS hT hI0 hk hbl hc hn hm hUk hVk
 by_cases hnm:n=m
 rotate_left
 ·have hd:((n:Int) !=(m:Int))=true:=by simp;omega
  have HNE:Hid (¬S.ks=T.ks):=λh=>by
   have:=congrArg List.length h;rw[HX.out.2.2.1,HX.out.2.2.2.1]at this;exact absurd this hnm
  clear hnm
  go_enter Tryz.func88,Tryz.ntmps88
  go_wp2;go_ret;exact⟨0,Ak.Told.no HNE.out,HX.out.2.2.2.2.1⟩
 subst hnm;have enn:((n:Int) !=(n:Int))=false:=by simp
 go_enter Tryz.func88,Tryz.ntmps88
 go_wp2
 go_loopg [17] n (λgk i wr=>∃j:Nat,gk+j=n/\i=.int .i64 j/\Hid (Inv j wr/\S.ks.take j=T.ks.take j))
 case atStart=>exact⟨0,by omega,rfl,HX.out.2.2.2.2.1,by simp⟩
 case round=>
  obtain⟨j,hj,rfl,HJ⟩:=hrel
  by_cases hjn:j<n
  rotate_left
  ·have hd:decide ((j:Int)<n)=false:=decide_eq_false (by omega)
   have HE:Hid (S.ks=T.ks):=by
    have h:=HJ.out.2
    rwa [List.take_of_length_le (by rw[HX.out.2.2.1];omega),List.take_of_length_le (by rw[HX.out.2.2.2.1];omega)]at h
   go_wp2;go_ret;exact⟨j,Ak.Told.yes HE.out,HJ.out.1⟩
  have hd:decide ((j:Int)<n)=true:=decide_eq_true (by omega);have hjn':(j:Int)<n:=by omega
  have hj0:(0:Int)<=j:=by omega
  have hx:j<S.ks.length:=by rw[HX.out.2.2.1];exact hjn
  have hy:j<T.ks.length:=by rw[HX.out.2.2.2.1];exact hjn
  obtain⟨ga,oa,U1,rfl,hga,ra,la⟩:=HX.out.1.kid HX.out.2.2.2.2.2.1 j hx;obtain⟨gb,ob,V1,rfl,hgb,rb,lb'⟩:=HX.out.2.1.kid HX.out.2.2.2.2.2.2 j hy;have hcl:=λW h=>HC.out j hx hy W U1 V1 h la lb';have h1a:=la.ones;have h1b:=lb'.ones;obtain⟨y0,y1,y2,y3,y4,y5,y6,y7,y8,y9,y10,y11,hyr⟩:∃y0 y1 y2 y3 y4 y5 y6 y7 y8 y9 y10 y11,Ac.row S.ks[j] U1=#[y0,y1,y2,y3,y4,y5,y6,y7,y8,y9,y10,y11]:=⟨_,_,_,_,_,_,_,_,_,_,_,_,rfl⟩;obtain⟨z0,z1,z2,z3,z4,z5,z6,z7,z8,z9,z10,z11,hzr⟩:∃z0 z1 z2 z3 z4 z5 z6 z7 z8 z9 z10 z11,Ac.row T.ks[j] V1=#[z0,z1,z2,z3,z4,z5,z6,z7,z8,z9,z10,z11]:=⟨_,_,_,_,_,_,_,_,_,_,_,_,rfl⟩;rw[hyr]at ra h1a;rw[hzr]at rb h1b;rw[hyr,hzr]at hcl;have hkb:=HK.out.1 j wr HJ.out.1;have hc1:∀p W,Below wr.heap.size wr W->W.cell? ⟨ga,p,none⟩=w.cell? ⟨ga,p,none⟩:=λp W hb=>by rw[hb.cell (p:=⟨ga,p,none⟩) (by show ga<_;omega)];exact World.cell?_of_block (w:=w) (hkb.1 ga hga)
  have hc2:∀p W,Below wr.heap.size wr W->W.cell? ⟨gb,p,none⟩=w.cell? ⟨gb,p,none⟩:=λp W hb=>by rw[hb.cell (p:=⟨gb,p,none⟩) (by show gb<_;omega)];exact World.cell?_of_block (w:=w) (hkb.1 gb hgb)
  have HK1:Hid ((wr.alloc (.cells #[.int .i64 0,.int .i64 0,.int .i64 0,.int .i64 0,.int .i64 0,.int .i64 0,.slice none 0 0,.slice none 0 0,.slice none 0 0,.slice none 0 0,.slice none 0 0,.slice none 0 0] 32)).heap[wr.heap.size]? =some (.cells #[.int .i64 0,.int .i64 0,.int .i64 0,.int .i64 0,.int .i64 0,.int .i64 0,.slice none 0 0,.slice none 0 0,.slice none 0 0,.slice none 0 0,.slice none 0 0,.slice none 0 0] 32 (0,0))):=heap_alloc_new wr _;obtain⟨V0,hV0⟩:=pE ((wr.alloc (.cells #[.int .i64 0,.int .i64 0,.int .i64 0,.int .i64 0,.int .i64 0,.int .i64 0,.slice none 0 0,.slice none 0 0,.slice none 0 0,.slice none 0 0,.slice none 0 0,.slice none 0 0] 32)).setRow wr.heap.size #[y0,y1,y2,y3,y4,y5,y6,y7,y8,y9,y10,y11]);have HV0:Hid ((wr.alloc (.cells #[.int .i64 0,.int .i64 0,.int .i64 0,.int .i64 0,.int .i64 0,.int .i64 0,.slice none 0 0,.slice none 0 0,.slice none 0 0,.slice none 0 0,.slice none 0 0,.slice none 0 0] 32)).setRow wr.heap.size #[y0,y1,y2,y3,y4,y5,y6,y7,y8,y9,y10,y11]=V0):=hV0;have G1:V0.heap[wr.heap.size]? =some (.cells #[y0,y1,y2,y3,y4,y5,y6,y7,y8,y9,y10,y11] 32 (0,0)):=by show _=_;rw[<-hV0];exact setRow_heap _ _ _ _ _ _ HK1.out
  have B1:Below wr.heap.size wr V0:=by
   rw[<-hV0];exact((Below.refl _ wr).alloc (Nat.le_refl _) _).trans ⟨rfl,rfl,rfl,by simp[World.setRow],λk hk=>setRow_other _ _ _ _ (by omega)⟩
  have HK2:Hid ((V0.alloc (.cells #[.int .i64 0,.int .i64 0,.int .i64 0,.int .i64 0,.int .i64 0,.int .i64 0,.slice none 0 0,.slice none 0 0,.slice none 0 0,.slice none 0 0,.slice none 0 0,.slice none 0 0] 32)).heap[V0.heap.size]? =some (.cells #[.int .i64 0,.int .i64 0,.int .i64 0,.int .i64 0,.int .i64 0,.int .i64 0,.slice none 0 0,.slice none 0 0,.slice none 0 0,.slice none 0 0,.slice none 0 0,.slice none 0 0] 32 (0,0))):=heap_alloc_new V0 _;obtain⟨V2,hV2⟩:=pE ((V0.alloc (.cells #[.int .i64 0,.int .i64 0,.int .i64 0,.int .i64 0,.int .i64 0,.int .i64 0,.slice none 0 0,.slice none 0 0,.slice none 0 0,.slice none 0 0,.slice none 0 0,.slice none 0 0] 32)).setRow V0.heap.size #[z0,z1,z2,z3,z4,z5,z6,z7,z8,z9,z10,z11]);have HV2:Hid ((V0.alloc (.cells #[.int .i64 0,.int .i64 0,.int .i64 0,.int .i64 0,.int .i64 0,.int .i64 0,.slice none 0 0,.slice none 0 0,.slice none 0 0,.slice none 0 0,.slice none 0 0,.slice none 0 0] 32)).setRow V0.heap.size #[z0,z1,z2,z3,z4,z5,z6,z7,z8,z9,z10,z11]=V2):=hV2;have G2:V2.heap[V0.heap.size]? =some (.cells #[z0,z1,z2,z3,z4,z5,z6,z7,z8,z9,z10,z11] 32 (0,0)):=by show _=_;rw[<-hV2];exact setRow_heap _ _ _ _ _ _ HK2.out
  have B2:Below V0.heap.size V0 V2:=by
   rw[<-hV2];exact((Below.refl _ V0).alloc (Nat.le_refl _) _).trans ⟨rfl,rfl,rfl,by simp[World.setRow],λk hk=>setRow_other _ _ _ _ (by omega)⟩
  have hlt:wr.heap.size<V0.heap.size:=(Array.getElem?_eq_some_iff.1 G1).1;have G3:=(B2.block wr.heap.size hlt).trans G1;have bb:Below wr.heap.size wr V2:=B1.trans (B2.mono B1.size);have qa:wr.cell? ⟨ga,oa+j*12,none⟩=some y0/\wr.cell? ⟨ga,oa+j*12+1,none⟩=some y1/\wr.cell? ⟨ga,oa+j*12+2,none⟩=some y2/\wr.cell? ⟨ga,oa+j*12+3,none⟩=some y3/\wr.cell? ⟨ga,oa+j*12+4,none⟩=some y4/\wr.cell? ⟨ga,oa+j*12+5,none⟩=some y5/\wr.cell? ⟨ga,oa+j*12+6,none⟩=some y6/\wr.cell? ⟨ga,oa+j*12+7,none⟩=some y7/\wr.cell? ⟨ga,oa+j*12+8,none⟩=some y8/\wr.cell? ⟨ga,oa+j*12+9,none⟩=some y9/\wr.cell? ⟨ga,oa+j*12+10,none⟩=some y10/\wr.cell? ⟨ga,oa+j*12+11,none⟩=some y11:=⟨(hc1 _ _ (Below.refl _ _)).trans (ra 0 (by simp)),(hc1 _ _ (Below.refl _ _)).trans (ra 1 (by simp)),(hc1 _ _ (Below.refl _ _)).trans (ra 2 (by simp)),(hc1 _ _ (Below.refl _ _)).trans (ra 3 (by simp)),(hc1 _ _ (Below.refl _ _)).trans (ra 4 (by simp)),(hc1 _ _ (Below.refl _ _)).trans (ra 5 (by simp)),(hc1 _ _ (Below.refl _ _)).trans (ra 6 (by simp)),(hc1 _ _ (Below.refl _ _)).trans (ra 7 (by simp)),(hc1 _ _ (Below.refl _ _)).trans (ra 8 (by simp)),(hc1 _ _ (Below.refl _ _)).trans (ra 9 (by simp)),(hc1 _ _ (Below.refl _ _)).trans (ra 10 (by simp)),(hc1 _ _ (Below.refl _ _)).trans (ra 11 (by simp))⟩
  have qb:V0.cell? ⟨gb,ob+j*12,none⟩=some z0/\V0.cell? ⟨gb,ob+j*12+1,none⟩=some z1/\V0.cell? ⟨gb,ob+j*12+2,none⟩=some z2/\V0.cell? ⟨gb,ob+j*12+3,none⟩=some z3/\V0.cell? ⟨gb,ob+j*12+4,none⟩=some z4/\V0.cell? ⟨gb,ob+j*12+5,none⟩=some z5/\V0.cell? ⟨gb,ob+j*12+6,none⟩=some z6/\V0.cell? ⟨gb,ob+j*12+7,none⟩=some z7/\V0.cell? ⟨gb,ob+j*12+8,none⟩=some z8/\V0.cell? ⟨gb,ob+j*12+9,none⟩=some z9/\V0.cell? ⟨gb,ob+j*12+10,none⟩=some z10/\V0.cell? ⟨gb,ob+j*12+11,none⟩=some z11:=⟨(hc2 _ _ B1).trans (rb 0 (by simp)),(hc2 _ _ B1).trans (rb 1 (by simp)),(hc2 _ _ B1).trans (rb 2 (by simp)),(hc2 _ _ B1).trans (rb 3 (by simp)),(hc2 _ _ B1).trans (rb 4 (by simp)),(hc2 _ _ B1).trans (rb 5 (by simp)),(hc2 _ _ B1).trans (rb 6 (by simp)),(hc2 _ _ B1).trans (rb 7 (by simp)),(hc2 _ _ B1).trans (rb 8 (by simp)),(hc2 _ _ B1).trans (rb 9 (by simp)),(hc2 _ _ B1).trans (rb 10 (by simp)),(hc2 _ _ B1).trans (rb 11 (by simp))⟩
  have qc:V2.cell? ⟨wr.heap.size,0,none⟩=some y0/\V2.cell? ⟨wr.heap.size,1,none⟩=some y1/\V2.cell? ⟨wr.heap.size,2,none⟩=some y2/\V2.cell? ⟨wr.heap.size,3,none⟩=some y3/\V2.cell? ⟨wr.heap.size,4,none⟩=some y4/\V2.cell? ⟨wr.heap.size,5,none⟩=some y5/\V2.cell? ⟨wr.heap.size,6,none⟩=some y6/\V2.cell? ⟨wr.heap.size,7,none⟩=some y7/\V2.cell? ⟨wr.heap.size,8,none⟩=some y8/\V2.cell? ⟨wr.heap.size,9,none⟩=some y9/\V2.cell? ⟨wr.heap.size,10,none⟩=some y10/\V2.cell? ⟨wr.heap.size,11,none⟩=some y11:=by simp[World.cell?,G3]
  have qd:V2.cell? ⟨V0.heap.size,0,none⟩=some z0/\V2.cell? ⟨V0.heap.size,1,none⟩=some z1/\V2.cell? ⟨V0.heap.size,2,none⟩=some z2/\V2.cell? ⟨V0.heap.size,3,none⟩=some z3/\V2.cell? ⟨V0.heap.size,4,none⟩=some z4/\V2.cell? ⟨V0.heap.size,5,none⟩=some z5/\V2.cell? ⟨V0.heap.size,6,none⟩=some z6/\V2.cell? ⟨V0.heap.size,7,none⟩=some z7/\V2.cell? ⟨V0.heap.size,8,none⟩=some z8/\V2.cell? ⟨V0.heap.size,9,none⟩=some z9/\V2.cell? ⟨V0.heap.size,10,none⟩=some z10/\V2.cell? ⟨V0.heap.size,11,none⟩=some z11:=by simp[World.cell?,G2]
  obtain⟨a0,a1,a2,a3,a4,a5,a6,a7,a8,a9,a10,a11⟩:=qa;obtain⟨b0,b1,b2,b3,b4,b5,b6,b7,b8,b9,b10,b11⟩:=qb;obtain⟨c0,c1,c2,c3,c4,c5,c6,c7,c8,c9,c10,c11⟩:=qc;obtain⟨d0,d1,d2,d3,d4,d5,d6,d7,d8,d9,d10,d11⟩:=qd;have HA1:Hid (#[y0,y1,y2,y3,y4,y5,y6,y7,y8,y9,y10,y11].all (·.oneCell')=true):=h1a;have HA2:Hid (#[z0,z1,z2,z3,z4,z5,z6,z7,z8,z9,z10,z11].all (·.oneCell')=true):=h1b;have HCL:Hid _:=hcl V2 (HK.out.2 _ _ _ HJ.out.1 bb);clear hyr hzr ra rb la lb' h1a h1b hcl hkb hc1 hc2 hV0 hV2 G1 G2 G3 B1 B2 bb hlt
  go_upto_region 6 with(refine wpList_store_row rfl 32 _ _ rfl wr.heap.size #[y0,y1,y2,y3,y4,y5,y6,y7,y8,y9,y10,y11] rfl rfl 32 _ HK1.out (by kernel_rfl) rfl HA1.out ?_)
  rw[HV0.out]
  go_upto_region 7 with(refine wpList_store_row rfl 32 _ _ rfl V0.heap.size #[z0,z1,z2,z3,z4,z5,z6,z7,z8,z9,z10,z11] rfl rfl 32 _ HK2.out (by kernel_rfl) rfl HA2.out ?_)
  rw[HV2.out]
  go_wp2_with fail
  refine Calls.mono HCL.out ?_;rintro e W3 ⟨r,rfl,hr,hI3⟩;have H3:Hid ((r=true↔S.ks[j]=T.ks[j])/\Inv (j+1) W3):=⟨hr,hI3⟩;clear HCL hr hI3 a0 b0 c0 d0 a1 b1 c1 d1 a2 b2 c2 d2 a3 b3 c3 d3 a4 b4 c4 d4 a5 b5 c5 d5 a6 b6 c6 d6 a7 b7 c7 d7 a8 b8 c8 d8 a9 b9 c9 d9 a10 b10 c10 d10 a11 b11 c11 d11
  cases r
  ·have HNE:Hid (¬S.ks=T.ks):=λh=>by
    have:=H3.out.1.2 (by simp only[h]);simp at this
   go_wp2;go_ret;exact⟨j+1,Ak.Told.no HNE.out,H3.out.2⟩
  have HN:Hid (Inv (j+1) W3/\S.ks.take (j+1)=T.ks.take (j+1)):=by
   refine⟨H3.out.2, ?_⟩;rw[Ac.take_snoc _ _ hx,Ac.take_snoc _ _ hy,HJ.out.2,H3.out.1.1 (by first|rfl|trivial)]
  go_wp2;go_roundg (gk-1)
  case measure=>omega
  case rel=>exact⟨j+1,by omega,by go_num,HN.out⟩
def Ak.SameEnd (S T:Ac)(lv left bw:Nat)(w:World)(e:Ending)(w':World):Prop:=
 ∃r,e=.returned (.bool r)/\(r=true↔S=T)/\Tk.But (λk=>k=bw) w w'/\∃left',Ak.Wy bw lv left' w'/\left<=left'+S.size/\left'<=left
structure Ak.Sb (bw L:Nat)(b1 b2 b3:Nat)(w:World):Prop where
 h1:w.heap[b1]? =some (.cells #[.pointer (some ⟨bw,0,none⟩)] 132 (0,0))
 h2:w.heap[b2]? =some (.cells #[.int .i64 L] 3 (0,0))
 h3:w.heap[b3]? =some (.cells #[.func (.func 40) #[] #[]] 59 (0,0))
theorem Ak.Sb.keep {bw L b1 b2 b3:Nat}{w w':World}(h:Ak.Sb bw L b1 b2 b3 w)(k1:w'.heap[b1]? =w.heap[b1]?)(k2:w'.heap[b2]? =w.heap[b2]?)(k3:w'.heap[b3]? =w.heap[b3]?):Ak.Sb bw L b1 b2 b3 w':=⟨k1.trans h.h1,k2.trans h.h2,k3.trans h.h3⟩
theorem Ak.Sb.c1 {bw L b1 b2 b3:Nat}{w:World}(h:Ak.Sb bw L b1 b2 b3 w):w.cell? ⟨b1,0,none⟩=some (.pointer (some ⟨bw,0,none⟩)):=by have:=h.h1;simp[World.cell?,this]
theorem Ak.Sb.c2 {bw L b1 b2 b3:Nat}{w:World}(h:Ak.Sb bw L b1 b2 b3 w):w.cell? ⟨b2,0,none⟩=some (.int .i64 L):=by have:=h.h2;simp[World.cell?,this]
theorem Ak.Sb.c3 {bw L b1 b2 b3:Nat}{w:World}(h:Ak.Sb bw L b1 b2 b3 w):w.cell? ⟨b3,0,none⟩=some (.func (.func 40) #[] #[]):=by have:=h.h3;simp[World.cell?,this]
theorem Ak.Sb.lt {bw L b1 b2 b3:Nat}{w:World}(h:Ak.Sb bw L b1 b2 b3 w):b1<w.heap.size/\b2<w.heap.size/\b3<w.heap.size:=
 ⟨(Array.getElem?_eq_some_iff.1 h.h1).1,(Array.getElem?_eq_some_iff.1 h.h2).1,(Array.getElem?_eq_some_iff.1 h.h3).1⟩
theorem Tryz.asame1_any (bw lv L b1 b2 b3:Nat)(S T:Ac)(U V:Ac.Vs)(left:Nat)(W:World)(hb:Ak.Sb bw (L+1) b1 b2 b3 W)(hL:L<=1000)
  (hs:∀W',Below W.heap.size W W'->Calls Tryz.prog 59 #[.pointer (some ⟨bw,0,none⟩),.agg (Ac.row S U),.agg (Ac.row T V),.int .i64 L,.func (.func 40) #[] #[]] W' (Ak.SameEnd S T lv left bw W')):
  Calls Tryz.prog 89 #[.agg (Ac.row S U),.agg (Ac.row T V),.pointer (some ⟨b1,0,none⟩),.pointer (some ⟨b2,0,none⟩),.pointer (some ⟨b3,0,none⟩)] W (Ak.SameEnd S T lv left bw W):=by
 obtain⟨y0,y1,y2,y3,y4,y5,y6,y7,y8,y9,y10,y11,hyr⟩:∃y0 y1 y2 y3 y4 y5 y6 y7 y8 y9 y10 y11,Ac.row S U=#[y0,y1,y2,y3,y4,y5,y6,y7,y8,y9,y10,y11]:=⟨_,_,_,_,_,_,_,_,_,_,_,_,rfl⟩;obtain⟨z0,z1,z2,z3,z4,z5,z6,z7,z8,z9,z10,z11,hzr⟩:∃z0 z1 z2 z3 z4 z5 z6 z7 z8 z9 z10 z11,Ac.row T V=#[z0,z1,z2,z3,z4,z5,z6,z7,z8,z9,z10,z11]:=⟨_,_,_,_,_,_,_,_,_,_,_,_,rfl⟩;rw[hyr,hzr]at hs;rw[hyr,hzr];have k1:=hb.c1;have k2:=hb.c2;have k3:=hb.c3;obtain⟨l1,l2,l3⟩:=hb.lt;have A0:Below W.heap.size W ((W.alloc (.cells #[y0,y1,y2,y3,y4,y5,y6,y7,y8,y9,y10,y11] 32)).alloc (.cells #[z0,z1,z2,z3,z4,z5,z6,z7,z8,z9,z10,z11] 32)):=((Below.refl _ W).alloc (Nat.le_refl _) _).alloc (by simp) _;have H1:Hid _:=hs _ A0;have HA:Hid _:=A0;have e1:((L+1:Nat):Int)-1=L:=by omega
 clear hs A0 hb hyr hzr
 go_enter Tryz.func89,Tryz.ntmps89
 go_wp2_with fail
 refine Calls.mono H1.out ?_;rintro e W2 ⟨r,rfl,hr,hbt,hl⟩;have HR:Hid ((r=true↔S=T)/\Tk.But (λk=>k=bw) W W2/\∃left',Ak.Wy bw lv left' W2/\left<=left'+S.size/\left'<=left):=⟨hr,(Tk.But.of_below HA.out).trans hbt,hl⟩;clear hr hbt hl H1;go_wp2;go_ret;exact⟨r,rfl,HR.out⟩
theorem Ak.alloc5 (w:World)(o1 o2 o3 o4 o5:Obj):(((((w.alloc o1).alloc o2).alloc o3).alloc o4).alloc o5).heap[w.heap.size]? =some o1/\(((((w.alloc o1).alloc o2).alloc o3).alloc o4).alloc o5).heap[w.heap.size+1]? =some o2/\
  (((((w.alloc o1).alloc o2).alloc o3).alloc o4).alloc o5).heap[w.heap.size+2]? =some o3/\(((((w.alloc o1).alloc o2).alloc o3).alloc o4).alloc o5).heap[w.heap.size+3]? =some o4/\(((((w.alloc o1).alloc o2).alloc o3).alloc o4).alloc o5).heap[w.heap.size+4]? =some o5:=by
 simp only[World.alloc];refine⟨?_, ?_, ?_, ?_, ?_⟩
 ·rw[Array.getElem?_push,if_neg (by simp only[Array.size_push];omega),Array.getElem?_push,if_neg (by simp only[Array.size_push];omega),Array.getElem?_push,if_neg (by simp only[Array.size_push];omega),Array.getElem?_push,if_neg (by simp only[Array.size_push];omega),Array.getElem?_push,if_pos rfl]
 ·rw[Array.getElem?_push,if_neg (by simp only[Array.size_push];omega),Array.getElem?_push,if_neg (by simp only[Array.size_push];omega),Array.getElem?_push,if_neg (by simp only[Array.size_push];omega),Array.getElem?_push,if_pos (by simp only[Array.size_push])]
 ·rw[Array.getElem?_push,if_neg (by simp only[Array.size_push];omega),Array.getElem?_push,if_neg (by simp only[Array.size_push];omega),Array.getElem?_push,if_pos (by simp only[Array.size_push])]
 ·rw[Array.getElem?_push,if_neg (by simp only[Array.size_push];omega),Array.getElem?_push,if_pos (by simp only[Array.size_push])]
 rw[Array.getElem?_push,if_pos (by simp only[Array.size_push])]
def Ak.SInv (S:Ac)(lv bw L k b1 b2 b3:Nat)(w:World)(j:Nat)(W:World):Prop:=
 Tk.But (λx=>x=bw) w W/\Ak.Sb bw (L+1) b1 b2 b3 W/\∃left,Ak.Wy bw lv left W/\k<=left+Ac.sizes (S.ks.take j)/\left<=k
theorem Ac.eq_iff (S T:Ac):S=T↔Ac.Same1 S T/\S.ks=T.ks:=by
 cases S;cases T
 simp only[Ac.mk.injEq,Ac.Same1,Ac.kind,Ac.node,Ac.a,Ac.b,Ac.t,Ac.cs,Ac.ks,Ac.ls,Ac.ns,Ac.fs]
 constructor
 ·rintro⟨h1,h2,h3,h4,h5,h6,h7,h8,h9,h10⟩;exact⟨⟨h1,h2,h3,h4,h5,h6,h8,h9,h10⟩,h7⟩
 rintro⟨⟨h1,h2,h3,h4,h5,h6,h8,h9,h10⟩,h7⟩;exact⟨h1,h2,h3,h4,h5,h6,h7,h8,h9,h10⟩
theorem Tryz.asame_any (lv bw B e e':Nat)(hB0:0<B)(hbw:B<=bw):∀(d d' L:Nat) (S T:Ac) (U V:Ac.Vs) (left:Nat) (w:World),Ac.Lies w B e d U S->Ac.Lies w B e' d' V T->B<=w.heap.size->Ak.Wy bw lv left w->S.size<=left->left<=2147483647->S.depth<=L->L<=1000->S.All Ac.Fit->
  Calls Tryz.prog 59 #[.pointer (some ⟨bw,0,none⟩),.agg (Ac.row S U),.agg (Ac.row T V),.int .i64 L,.func (.func 40) #[] #[]] w (Ak.SameEnd S T lv left bw w):=by
 intro d
 induction d with
 |zero=>intro d' L S T U V left w h;exact h.elim
 |succ d ih=>
  intro d' L S T U V left w hS hT hBs hW hsz hleft hdp hL hfit
  cases d' with
  |zero=>exact hT.elim
  |succ d'=>
  rw[S.all_eq]at hfit;obtain⟨a,ca,hUk⟩:=hS.kids;obtain⟨b,cb,hVk⟩:=hT.kids;obtain⟨L,rfl⟩:∃l,L=l+1:=⟨L-1,by have:=S.depth_eq;omega⟩;obtain⟨k,rfl⟩:∃k,left=k+1:=⟨left-1,by have:=S.size_pos;omega⟩;obtain⟨n,hn⟩:=pE (S.ks.length);obtain⟨m,hm⟩:=pE (T.ks.length);rw[hn]at hUk;rw[hm]at hVk;obtain⟨y0,y1,y2,y3,y4,y5,y6,y7,y9,y10,y11,hyr⟩:∃y0 y1 y2 y3 y4 y5 y6 y7 y9 y10 y11,Ac.row S U=#[y0,y1,y2,y3,y4,y5,y6,y7,.slice a n ca,y9,y10,y11]:=⟨_,_,_,_,_,_,_,_,_,_,_,by unfold Ac.row;rw[hUk]⟩;obtain⟨z0,z1,z2,z3,z4,z5,z6,z7,z9,z10,z11,hzr⟩:∃z0 z1 z2 z3 z4 z5 z6 z7 z9 z10 z11,Ac.row T V=#[z0,z1,z2,z3,z4,z5,z6,z7,.slice b m cb,z9,z10,z11]:=⟨_,_,_,_,_,_,_,_,_,_,_,by unfold Ac.row;rw[hVk]⟩;rw[hyr,hzr];obtain⟨w5,hw5⟩:=pE ((((((w.alloc (.cells #[.pointer (some ⟨bw,0,none⟩)] 132)).alloc (.cells #[y0,y1,y2,y3,y4,y5,y6,y7,.slice a n ca,y9,y10,y11] 32)).alloc (.cells #[z0,z1,z2,z3,z4,z5,z6,z7,.slice b m cb,z9,z10,z11] 32)).alloc (.cells #[.int .i64 ((L:Int)+1)] 3)).alloc (.cells #[.func (.func 40) #[] #[]] 59)))
  have A5:Below w.heap.size w w5:=by
   rw[<-hw5];exact(((((Below.refl _ w).alloc (Nat.le_refl _) _).alloc (by simp) _).alloc (by simp;omega) _).alloc (by simp;omega) _).alloc (by simp;omega) _
  have hs5:w5.heap.size=w.heap.size+5:=by rw[<-hw5];simp
  have hwl:=hW.lt;have W5:Ak.Wy bw lv (k+1) w5:=hW.keep (A5.block bw hwl);obtain⟨r1,r2,r3,r4,r5⟩:=Ak.alloc5 w (.cells #[.pointer (some ⟨bw,0,none⟩)] 132) (.cells #[y0,y1,y2,y3,y4,y5,y6,y7,.slice a n ca,y9,y10,y11] 32) (.cells #[z0,z1,z2,z3,z4,z5,z6,z7,.slice b m cb,z9,z10,z11] 32) (.cells #[.int .i64 ((L:Int)+1)] 3) (.cells #[.func (.func 40) #[] #[]] 59);rw[hw5]at r1 r2 r3 r4 r5;have S5:Ak.Sb bw (L+1) w.heap.size (w.heap.size+3) (w.heap.size+4) w5:=⟨r1,by rw[r4];simp,r5⟩
  have CF:Hid (∀W,Tk.But (λx=>x=bw) w5 W->Ak.Sb bw (L+1) w.heap.size (w.heap.size+3) (w.heap.size+4) W/\W.cell? ⟨w.heap.size+1,0,none⟩=some (y0)/\W.cell? ⟨w.heap.size+1,1,none⟩=some (y1)/\W.cell? ⟨w.heap.size+1,2,none⟩=some (y2)/\W.cell? ⟨w.heap.size+1,3,none⟩=some (y3)/\W.cell? ⟨w.heap.size+1,4,none⟩=some (y4)/\W.cell? ⟨w.heap.size+1,5,none⟩=some (y5)/\W.cell? ⟨w.heap.size+1,6,none⟩=some (y6)/\W.cell? ⟨w.heap.size+1,7,none⟩=some (y7)/\W.cell? ⟨w.heap.size+1,8,none⟩=some (.slice a n ca)/\W.cell? ⟨w.heap.size+1,9,none⟩=some (y9)/\W.cell? ⟨w.heap.size+1,10,none⟩=some (y10)/\W.cell? ⟨w.heap.size+1,11,none⟩=some (y11)/\W.cell? ⟨w.heap.size+2,0,none⟩=some (z0)/\W.cell? ⟨w.heap.size+2,1,none⟩=some (z1)/\W.cell? ⟨w.heap.size+2,2,none⟩=some (z2)/\W.cell? ⟨w.heap.size+2,3,none⟩=some (z3)/\W.cell? ⟨w.heap.size+2,4,none⟩=some (z4)/\W.cell? ⟨w.heap.size+2,5,none⟩=some (z5)/\W.cell? ⟨w.heap.size+2,6,none⟩=some (z6)/\W.cell? ⟨w.heap.size+2,7,none⟩=some (z7)/\W.cell? ⟨w.heap.size+2,8,none⟩=some (.slice b m cb)/\W.cell? ⟨w.heap.size+2,9,none⟩=some (z9)/\W.cell? ⟨w.heap.size+2,10,none⟩=some (z10)/\W.cell? ⟨w.heap.size+2,11,none⟩=some (z11)):=by
   intro W hb;have e1:=(hb.block (w.heap.size+1) (by omega) (by omega)).trans r2;have e2:=(hb.block (w.heap.size+2) (by omega) (by omega)).trans r3;refine⟨S5.keep (hb.block _ (by omega) (by omega)) (hb.block _ (by omega) (by omega)) (hb.block _ (by omega) (by omega)), ?_⟩;simp[World.cell?,e1,e2]
  have HW5:Hid ((((((w.alloc (.cells #[.pointer (some ⟨bw,0,none⟩)] 132)).alloc (.cells #[y0,y1,y2,y3,y4,y5,y6,y7,.slice a n ca,y9,y10,y11] 32)).alloc (.cells #[z0,z1,z2,z3,z4,z5,z6,z7,.slice b m cb,z9,z10,z11] 32)).alloc (.cells #[.int .i64 ((L:Int)+1)] 3)).alloc (.cells #[.func (.func 40) #[] #[]] 59))=w5):=hw5;have HX:Hid (Ac.Lies w B e (d+1) U S/\Ac.Lies w B e' (d'+1) V T/\S.ks.length=n/\T.ks.length=m/\Below w.heap.size w w5/\U.k=.slice a n ca/\V.k=.slice b m cb):=⟨hS,hT,hn,hm,A5,hUk,hVk⟩;have HE0:Hid (Ac.row S U=#[y0,y1,y2,y3,y4,y5,y6,y7,.slice a n ca,y9,y10,y11]/\Ac.row T V=#[z0,z1,z2,z3,z4,z5,z6,z7,.slice b m cb,z9,z10,z11]/\S.Fit/\Ac.Alls Ac.Fit S.ks):=⟨hyr,hzr,hfit.1,hfit.2⟩;have HN:Hid (B<=w.heap.size/\S.size<=k+1/\k+1<=2147483647/\S.depth<=L+1/\L+1<=1000/\bw<w.heap.size/\w5.heap.size=w.heap.size+5):=⟨hBs,hsz,hleft,hdp,hL,hwl,hs5⟩;have HI:Hid _:=ih;have hk2:k<=2147483647:=by omega
  have hLb:L<=1000:=by omega
  clear ih hS hT hBs hW hsz hleft hdp hL hn hm hUk hVk hyr hzr hfit hw5 A5 r1 r2 r3 r4 r5 S5 hs5 hwl
  go_enter Tryz.func59,Tryz.ntmps59
  go_wp2_with fail
  rw[HW5.out];refine(Tryz.aenter_yes bw lv k L _ W5 hk2).mono ?_;rintro e0 W1 ⟨rfl,hw1⟩;have X1:Tk.But (λx=>x=bw) w5 W1:=by rw[hw1];exact(Tk.But.refl _ _).setCell (E:=λx=>x=bw) (p:=⟨bw,2,none⟩) rfl _
  have W1k:Hid (Ak.Wy bw lv k W1):=by show Ak.Wy _ _ _ _;rw[hw1];exact W5.put k
  obtain⟨sb,a0,a1,a2,a3,a4,a5,a6,a7,a8,a9,a10,a11,b0,b1,b2,b3,b4,b5,b6,b7,b8,b9,b10,b11⟩:=CF.out W1 X1;have k3:=sb.c3;have HX1:Hid _:=X1;have XW1:Tk.But (λx=>x=bw) w W1:=(Tk.But.of_below HX.out.2.2.2.2.1).trans X1;have hlb:∀i,i<B->¬i=bw:=λi hi=>by omega
  have h:=Tryz.aalike_any e e' B S T U V W1 (HX.out.1.own.keep λi hi=>XW1.block i (by have:=HN.out;omega) (hlb i hi)) (HX.out.2.1.own.keep λi hi=>XW1.block i (by have:=HN.out;omega) (hlb i hi)) (by have:=XW1.size;have:=HN.out;omega) (by have:=XW1.size;have:=HN.out;omega) HE0.out.2.2.1;rw[HE0.out.1,HE0.out.2.1]at h;have CA:Hid _:=h;clear h XW1 hlb;clear hw1 W5 X1 sb
  go_wp2_with fail
  refine Calls.mono CA.out ?_;rintro e0 W2 ⟨⟨r,rfl,hr⟩,hb2⟩;have HR:Hid (r=true↔Ac.Same1 S T):=hr;have X2:Hid (Tk.But (λx=>x=bw) w5 W2):=HX1.out.trans (Tk.But.of_below hb2);have W2k:Hid (Ak.Wy bw lv k W2):=W1k.out.keep (hb2.block bw W1k.out.lt);have XW:Hid (Tk.But (λx=>x=bw) w W2):=(Tk.But.of_below HX.out.2.2.2.2.1).trans X2.out;clear hb2 hr a0 b0 a1 b1 a2 b2 a3 b3 a4 b4 a5 b5 a6 b6 a7 b7 a8 b8 a9 b9 a10 b10 a11 b11 k3 HX1 W1k CA
  cases r
  ·go_wp2
   go_ret;refine⟨false,rfl,⟨λh=>by simp at h,λh=> ?_⟩,XW.out,k,W2k.out, ?_,by omega⟩
   ·have h2:=HR.out.2 ((Ac.eq_iff S T).1 h).1
    simp at h2
   have:=S.size_pos;omega
  have HQ:Hid (Ac.Same1 S T):=HR.out.1 (by first|rfl|trivial);clear HR
  have CKa:Hid (∀W,Below W2.heap.size W2 W->Calls Tryz.prog 60 #[.agg #[y0,y1,y2,y3,y4,y5,y6,y7,.slice a n ca,y9,y10,y11]] W λe w'=>e=.returned (.slice a n ca)/\Hid (Below W2.heap.size W2 w')):=λW hb=>
   (Tryz.akids_any y0 y1 y2 y3 y4 y5 y6 y7 y9 y10 y11 a n ca W).mono λ_ _ h=>⟨h.1,hb.trans (h.2.mono hb.size)⟩
  have CKb:Hid (∀W,Below W2.heap.size W2 W->Calls Tryz.prog 60 #[.agg #[z0,z1,z2,z3,z4,z5,z6,z7,.slice b m cb,z9,z10,z11]] W λe w'=>e=.returned (.slice b m cb)/\Hid (Below W2.heap.size W2 w')):=λW hb=>
   (Tryz.akids_any z0 z1 z2 z3 z4 z5 z6 z7 z9 z10 z11 b m cb W).mono λ_ _ h=>⟨h.1,hb.trans (h.2.mono hb.size)⟩
  obtain⟨CS,hCS⟩:∃CS:World->Prop,CS=λV=>(V.cell? ⟨w.heap.size,0,none⟩=some (.pointer (some ⟨bw,0,none⟩))/\V.cell? ⟨bw,0,none⟩=some (.func (.func 60) #[] #[]))/\V.cell? ⟨w.heap.size+1,0,none⟩=some (y0)/\V.cell? ⟨w.heap.size+1,1,none⟩=some (y1)/\V.cell? ⟨w.heap.size+1,2,none⟩=some (y2)/\V.cell? ⟨w.heap.size+1,3,none⟩=some (y3)/\V.cell? ⟨w.heap.size+1,4,none⟩=some (y4)/\V.cell? ⟨w.heap.size+1,5,none⟩=some (y5)/\V.cell? ⟨w.heap.size+1,6,none⟩=some (y6)/\V.cell? ⟨w.heap.size+1,7,none⟩=some (y7)/\V.cell? ⟨w.heap.size+1,8,none⟩=some (.slice a n ca)/\V.cell? ⟨w.heap.size+1,9,none⟩=some (y9)/\V.cell? ⟨w.heap.size+1,10,none⟩=some (y10)/\V.cell? ⟨w.heap.size+1,11,none⟩=some (y11)/\V.cell? ⟨w.heap.size+2,0,none⟩=some (z0)/\V.cell? ⟨w.heap.size+2,1,none⟩=some (z1)/\V.cell? ⟨w.heap.size+2,2,none⟩=some (z2)/\V.cell? ⟨w.heap.size+2,3,none⟩=some (z3)/\V.cell? ⟨w.heap.size+2,4,none⟩=some (z4)/\V.cell? ⟨w.heap.size+2,5,none⟩=some (z5)/\V.cell? ⟨w.heap.size+2,6,none⟩=some (z6)/\V.cell? ⟨w.heap.size+2,7,none⟩=some (z7)/\V.cell? ⟨w.heap.size+2,8,none⟩=some (.slice b m cb)/\V.cell? ⟨w.heap.size+2,9,none⟩=some (z9)/\V.cell? ⟨w.heap.size+2,10,none⟩=some (z10)/\V.cell? ⟨w.heap.size+2,11,none⟩=some (z11):=⟨_,rfl⟩
  have CE:Hid (∀W,Below W2.heap.size W2 W->Calls Tryz.prog 88 #[.slice a n ca,.slice b m cb,.func (.func 89) #[] #[.pointer (some ⟨w.heap.size,0,none⟩),.pointer (some ⟨w.heap.size+3,0,none⟩),.pointer (some ⟨w.heap.size+4,0,none⟩)]] W λe w'=>∃r,e=.returned (.bool r)/\Hid ((r=true↔S.ks=T.ks)/\Tk.But (λx=>x=bw) w w'/\(∃left',Ak.Wy bw lv left' w'/\k+1<=left'+S.size/\left'<=k+1)/\CS w')):=by
   intro W hb;have XWW:Tk.But (λx=>x=bw) W2 W:=Tk.But.of_below hb;have hz2:=X2.out.size;have XW0:=XW.out.trans XWW;have hlb:∀i,i<B->¬i=bw:=λi hi=>by omega
   have LS:Ac.Lies W B e (d+1) U S:=HX.out.1.keep λi hi=>XW0.block i (by have:=HN.out;omega) (hlb i hi);have LT:Ac.Lies W B e' (d'+1) V T:=HX.out.2.1.keep λi hi=>XW0.block i (by have:=HN.out;omega) (hlb i hi);have hSb:=(CF.out W (X2.out.trans (Tk.But.of_below hb))).1
   have h:=Tryz.aequalFunc_any (g:=89) (lb:=#[.pointer (some ⟨w.heap.size,0,none⟩),.pointer (some ⟨w.heap.size+3,0,none⟩),.pointer (some ⟨w.heap.size+4,0,none⟩)]) (enters_of Tryz.func89 (by kernel_rfl) rfl) S T U V a b ca cb B e e' d d' W (Ak.SInv S lv bw L k w.heap.size (w.heap.size+3) (w.heap.size+4) W2) LS (by rw[HX.out.2.2.1];exact HX.out.2.2.2.2.2.1) LT (by rw[HX.out.2.2.2.1];exact HX.out.2.2.2.2.2.2)
    ⟨XWW,hSb,k,W2k.out.keep (hb.block bw W2k.out.lt),by omega,Nat.le_refl _⟩
    (λj V' hV=>⟨λi hi=>by
     rw[hV.1.block i (by have:=HN.out;omega) (hlb i hi)]
     exact(XWW.block i (by have:=HN.out;omega) (hlb i hi)).symm,by have:=hV.1.size;have:=HN.out;omega⟩)
    (λj V' V'' hV hbb=>by
     obtain⟨h1,h2,l,h3,h4⟩:=hV;have hz:=h2.lt
     exact⟨h1.trans (Tk.But.of_below hbb),h2.keep (hbb.block _ hz.1) (hbb.block _ hz.2.1) (hbb.block _ hz.2.2),l,h3.keep (hbb.block _ h3.lt),h4⟩)
    (by have h1:=Ac.length_le_sizes S.ks;have h2:=S.size_eq;have:=HN.out;omega)
    (λj hx hy V' U1 V1 hV hu hv=>by
     obtain⟨h1,h2,l,h3,h4,h5⟩:=hV;have hsx:=Ac.sizes_get S.ks j hx;have hse:=S.size_eq;have hdx:=Ac.depths_get S.ks j hx;have hde:=S.depth_eq
     have hbase:∀i,i<B->V'.heap[i]? =W.heap[i]? :=λi hi=>by
      rw[h1.block i (by have:=HN.out;omega) (hlb i hi)];exact(XWW.block i (by have:=HN.out;omega) (hlb i hi)).symm
     have hq:=Tryz.asame1_any bw lv L w.heap.size (w.heap.size+3) (w.heap.size+4) S.ks[j] T.ks[j] U1 V1 l V' h2 (by omega)
      (λV'' hb'=>HI.out d' L S.ks[j] T.ks[j] U1 V1 l V'' ((hu.keep hbase).keep λi hi=>hb'.block i (by have:=h1.size;have:=HN.out;omega)) ((hv.keep hbase).keep λi hi=>hb'.block i (by have:=h1.size;have:=HN.out;omega)) (by have:=h1.size;have:=hb'.size;have:=HN.out;omega)
       (h3.keep (hb'.block bw h3.lt)) (by have:=HN.out;omega) (by have:=HN.out;omega) (by have:=HN.out;omega) hLb (Ac.alls_get HE0.out.2.2.2 j hx))
     refine hq.mono ?_;rintro e0 V'' ⟨r,rfl,hr,hbt,l',h6,h7,h8⟩;have hz:=h2.lt;have hne:bw<w.heap.size:=HN.out.2.2.2.2.2.1;refine⟨r,rfl,hr,h1.trans hbt,h2.keep (hbt.block _ hz.1 (by omega)) (hbt.block _ hz.2.1 (by omega)) (hbt.block _ hz.2.2 (by omega)),l',h6, ?_,by omega⟩;rw[Ac.sizes_take _ _ hx]
     omega)
   rw[HX.out.2.2.1,HX.out.2.2.2.1]at h;refine h.mono ?_;rintro e0 V' ⟨j,⟨r,rfl,hr⟩,h1,h2,l,h3,h4,h5⟩;have hcf:=CF.out V' (X2.out.trans h1);refine⟨r,rfl,hr,XW.out.trans h1,⟨l,h3, ?_,by omega⟩,by rw[hCS];exact⟨⟨hcf.1.c1,h3.c0⟩,hcf.2⟩⟩;have:=Ac.sizes_le S.ks j;have:=S.size_eq;omega
  have BR:Hid (Below W2.heap.size W2 W2):=Below.refl _ _;obtain⟨sb,a0,a1,a2,a3,a4,a5,a6,a7,a8,a9,a10,a11,b0,b1,b2,b3,b4,b5,b6,b7,b8,b9,b10,b11⟩:=CF.out W2 X2.out;have k1:=sb.c1;have kw:=W2k.out.c0
  have CFB:Hid (∀W,Below W2.heap.size W2 W->CS W):=λW hb=>by
   rw[hCS];have h:=CF.out W (X2.out.trans (Tk.But.of_below hb));exact⟨⟨h.1.c1,(W2k.out.keep (hb.block bw W2k.out.lt)).c0⟩,h.2⟩
  have HEQ:Hid (S.ks=T.ks↔S=T):=by
   have hq:=HQ.out;show _↔_;rw[Ac.eq_iff S T];exact⟨λh=>⟨hq,h⟩,λh=>h.2⟩
  clear sb HI CF HX HE0 HQ HN HW5 XW X2 W2k;subst hCS
  go_wp2_with fail
  go_region_held3 (λV=>(V.cell? ⟨w.heap.size,0,none⟩=some (.pointer (some ⟨bw,0,none⟩))/\V.cell? ⟨bw,0,none⟩=some (.func (.func 60) #[] #[]))/\V.cell? ⟨w.heap.size+1,0,none⟩=some (y0)/\V.cell? ⟨w.heap.size+1,1,none⟩=some (y1)/\V.cell? ⟨w.heap.size+1,2,none⟩=some (y2)/\V.cell? ⟨w.heap.size+1,3,none⟩=some (y3)/\V.cell? ⟨w.heap.size+1,4,none⟩=some (y4)/\V.cell? ⟨w.heap.size+1,5,none⟩=some (y5)/\V.cell? ⟨w.heap.size+1,6,none⟩=some (y6)/\V.cell? ⟨w.heap.size+1,7,none⟩=some (y7)/\V.cell? ⟨w.heap.size+1,8,none⟩=some (.slice a n ca)/\V.cell? ⟨w.heap.size+1,9,none⟩=some (y9)/\V.cell? ⟨w.heap.size+1,10,none⟩=some (y10)/\V.cell? ⟨w.heap.size+1,11,none⟩=some (y11)/\V.cell? ⟨w.heap.size+2,0,none⟩=some (z0)/\V.cell? ⟨w.heap.size+2,1,none⟩=some (z1)/\V.cell? ⟨w.heap.size+2,2,none⟩=some (z2)/\V.cell? ⟨w.heap.size+2,3,none⟩=some (z3)/\V.cell? ⟨w.heap.size+2,4,none⟩=some (z4)/\V.cell? ⟨w.heap.size+2,5,none⟩=some (z5)/\V.cell? ⟨w.heap.size+2,6,none⟩=some (z6)/\V.cell? ⟨w.heap.size+2,7,none⟩=some (z7)/\V.cell? ⟨w.heap.size+2,8,none⟩=some (.slice b m cb)/\V.cell? ⟨w.heap.size+2,9,none⟩=some (z9)/\V.cell? ⟨w.heap.size+2,10,none⟩=some (z10)/\V.cell? ⟨w.heap.size+2,11,none⟩=some (z11))
   (first|exact H4.out.2.2.2|exact CFB.out _ B4.out|exact CFB.out _ B3.out|exact CFB.out _ BR.out.drew|exact CFB.out _ BR.out)
   (first
   |(have hB3:=B3.out;go_simp;go_at_call 60;refine Calls.mono (CKb.out _ ?_) ?_;(first|exact B3.out|exact B3.out.drew|exact Tk.below_drewN B3.out _);rintro e0 W4 ⟨rfl,B4⟩)
   |(go_simp;go_at_call 60;refine Calls.mono (CKa.out _ ?_) ?_;(first|exact BR.out|exact BR.out.drew|exact Tk.below_drewN BR.out _);rintro e0 W3 ⟨rfl,B3⟩)
   |(go_simp;go_at_call 88;refine Calls.mono (CE.out _ ?_) ?_;(first|exact B4.out|exact B4.out.drew|exact Tk.below_drewN B4.out _);rintro e0 W6 ⟨r,rfl,H4⟩))
  all_goals
   clear CKa CKb CE CFB BR;go_simp;go_wp2;go_ret;refine⟨r,rfl,H4.out.1.trans HEQ.out, ?_,H4.out.2.2.1⟩
   first|exact H4.out.2.1|exact H4.out.2.1.drewN 1
end Go.Proofs
namespace Go.Proofs
open Go.RowKit
def Nt.Told (P:Prop)(e:Ending):Prop:=∃r,e=.returned (.bool r)/\(r=true↔P)
end Go.Proofs
