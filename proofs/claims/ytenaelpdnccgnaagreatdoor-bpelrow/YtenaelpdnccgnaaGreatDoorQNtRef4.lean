import Derived.Test.YtenaelpdnccgnaaGreatDoorQBwRes
set_option maxRecDepth 100000
set_option maxHeartbeats 32000000
namespace Go.Proofs
open Go.RowKit Go.Shelf
theorem Nt.count_both (p q:Fl->Bool)(fs:List Fl):((List.range fs.length).filter λk=>((fs[k]?.map p).getD false)).countP (λk=>((fs[k]?.map q).getD false))=fs.countP λf=>p f&&q f:=by
 rw[List.countP_filter,List.countP_eq_length_filter,<-Nt.filter_len]
 congr 1
 refine List.filter_congr λk hk=> ?_;rw[List.getElem?_eq_getElem (List.mem_range.1 hk)];simp[Bool.and_comm]
def Nt.elsAt (fs:List Fl)(k:Nat):Bool:=((fs[k]?.map Fl.els).getD false)
def Nt.othAt (ns:List Nd)(fs:List Fl)(k:Nat):Bool:=((fs[k]?.map λf=> !decide (Nt.kindAt ns f.to.toNat=8)).getD false)
theorem Nt.elses_outs (fs:List Fl)(i:Int):(Nt.outsL fs i).countP (Nt.elsAt fs)=Nt.elsesN fs i:=by
 rw[Nt.outsL_eq];exact Nt.count_both (λf=>decide (f.fr=i)) Fl.els fs
theorem Nt.others_outs (ns:List Nd)(fs:List Fl)(i:Int):(Nt.outsL fs i).countP (Nt.othAt ns fs)=Nt.othersN ns fs i:=by
 rw[Nt.outsL_eq];exact Nt.count_both (λf=>decide (f.fr=i)) (λf=> !decide (Nt.kindAt ns f.to.toNat=8)) fs
theorem Nt.outs_lt (fs:List Fl)(i:Int)(j:Nat)(h:j<(Nt.outsL fs i).length):(Nt.outsL fs i)[j]<fs.length:=by
 have:=List.getElem_mem h;unfold Nt.outsL at this;exact List.mem_range.1 (List.mem_filter.1 this).1
theorem Nt.own_cell {w:World}{B:Nat}{v:Value}{l:List Nat}(h:w.ownsRow B 3 1 v l.length (Rk.nums l)):∃a c,v=.slice a l.length c/\∀j (hj:j<l.length),∃g,a=some ⟨g,0,none⟩/\g<w.heap.size/\w.cell? ⟨g,j,none⟩=some (.int .i64 l[j]):=by
 rcases h.2 with⟨hv,hn⟩|⟨g,cap,cur,hv,_,hg,h1,_,_,h2⟩
 ·exact⟨none,0,by rw[hv,hn],λj hj=>by omega⟩
 refine⟨_,_,hv,λj hj=>⟨g,rfl,(Array.getElem?_eq_some_iff.1 hg).1, ?_⟩⟩
 have:cur[j]? =some (.int .i64 l[j]):=by
  have h3:(cur.toList.take (l.length*1))[j]? =(Rk.nums l)[j]? :=by rw[h2]
  rw[List.getElem?_take_of_lt (by omega)]at h3;rw[<-Array.getElem?_toList,h3];simp[Rk.nums,hj]
 unfold World.cell?;rw[hg];exact this
theorem Tryz.rthree_any (i:Nat)(an:Option Addr)(cn:Nat)(af:Option Addr)(cf d:Nat)(ns:List Nd)(fs:List Fl)(w:World)(hH:Nt.Has w w.heap.size d an af ns fs)(hto:∀f,f∈fs->0<=f.to/\f.to<ns.length)(hi:i<ns.length):
  Calls Tryz.prog 112 #[.agg #[.slice an ns.length cn,.slice af fs.length cf],.int .i64 i] w λe w'=>e=.returned (.bool (Nt.threeB ns fs i))/\Below w.heap.size w w':=by
 obtain⟨W0,hW0⟩:=pE (w.alloc (.cells #[.slice an ns.length cn,.slice af fs.length cf] 30));have A0:=pB hW0
 have G0:W0.heap[w.heap.size]? =some (.cells #[.slice an ns.length cn,.slice af fs.length cf] 30 (0,0)):=by rw[<-hW0];exact heap_alloc_new w _
 have hins:∀W,Below W0.heap.size W0 W->Calls Tryz.prog 145 #[.agg #[.slice an ns.length cn,.slice af fs.length cf],.int .i64 i] W λe w'=>∃a c,e=.returned (.slice a (Nt.insN fs i) c)/\Hid (Below W0.heap.size W0 w'):=λW hb=>by
  have hbw:=A0.trans (hb.mono A0.size)
  exact(Tryz.rIns_any i an ns.length cn af cf d fs W ((hH.fls.below hbw).wider hbw.size) hH.flen).mono λe w' h=>by
   obtain⟨x,hx,ho,hbb⟩:=h;obtain⟨a,c,rfl⟩:=Rk.own_shape ho;rw[Nt.insL_len]at hx;exact⟨a,c,hx,hb.trans (hbb.mono hb.size)⟩
 have houts:∀W,Below W0.heap.size W0 W->Calls Tryz.prog 144 #[.agg #[.slice an ns.length cn,.slice af fs.length cf],.int .i64 i] W λe w'=>∃a c,e=.returned (.slice a (Nt.outsL fs i).length c)/\Hid (Below W0.heap.size W0 w'/\∀j x,(Nt.outsL fs i)[j]? =some x->∃g,a=some ⟨g,0,none⟩/\g<w'.heap.size/\w'.cell? ⟨g,j,none⟩=some (.int .i64 ((x:Nat):Int))):=λW hb=>by
  have hbw:=A0.trans (hb.mono A0.size)
  exact(Tryz.rOuts_any i an ns.length cn af cf d fs W ((hH.fls.below hbw).wider hbw.size) hH.flen).mono λe w' h=>by
   obtain⟨x,hx,ho,hbb⟩:=h;obtain⟨a,c,rfl,hcs⟩:=Nt.own_cell ho;refine⟨a,c,hx,hb.trans (hbb.mono hb.size),λj x hjx=> ?_⟩;obtain⟨hj,rfl⟩:=List.getElem?_eq_some_iff.1 hjx;exact hcs j hj
 have hnk:∀x:Nat,x<ns.length->∃g o2,an=some ⟨g,o2,none⟩/\g<w.heap.size/\∀W,Below w.heap.size w W->W.cell? ⟨g,o2+x*5,none⟩=some (.int .i64 (Nt.kindAt ns x)):=λx hx=>by
  obtain⟨g,o2,u',e1,e2,e3,_⟩:=hH.nds x hx;exact⟨g,o2,e1,e2,λW hb=>by rw[hb.cell (p:=⟨g,o2+x*5,none⟩) e2,Nt.kindAt_get ns x hx];exact e3⟩
 have hfk:∀k:Nat,k<fs.length->∃g o2 x,af=some ⟨g,o2,none⟩/\g<w.heap.size/\x<ns.length/\Nt.othAt ns fs k= !decide (Nt.kindAt ns x=8)/\∀W,Below w.heap.size w W->W.cell? ⟨g,o2+k*6+1,none⟩=some (.int .i64 ((x:Nat):Int))/\W.cell? ⟨g,o2+k*6+2,none⟩=some (.bool (Nt.elsAt fs k)):=λk hk=>by
  obtain⟨g,o2,u',e1,e2,e3,e4,e5,_⟩:=hH.fls k hk;have ht:=hto _ (List.getElem_mem hk);refine⟨g,o2,fs[k].to.toNat,e1,e2,by omega,by simp[Nt.othAt,List.getElem?_eq_getElem hk],λW hb=>⟨?_, ?_⟩⟩
  ·rw[hb.cell (p:=⟨g,o2+k*6+1,none⟩) e2,Int.toNat_of_nonneg ht.1];exact e4
  rw[hb.cell (p:=⟨g,o2+k*6+2,none⟩) e2,Nt.elsAt,List.getElem?_eq_getElem hk];exact e5
 have hbd:Nt.insN fs i<=100/\(Nt.outsL fs i).length<=100:=by
  have:=hH.flen;rw[Nt.outsL_len];unfold Nt.insN Nt.outsN;exact⟨Nat.le_trans List.countP_le_length this,Nat.le_trans List.countP_le_length this⟩
 have hfl:=hH.flen;have hnl:=hH.nlen;have hoL:∀j (h:j<(Nt.outsL fs i).length),(Nt.outsL fs i)[j]<fs.length:=Nt.outs_lt fs i
 have hthree:Nt.threeB ns fs i=Nt.joinB (Nt.kindAt ns i) (Nt.insN fs i) (Nt.outsL fs i).length ((Nt.outsL fs i).countP (Nt.elsAt fs)) ((Nt.outsL fs i).countP (Nt.othAt ns fs)):=by
  rw[Nt.elses_outs,Nt.others_outs,Nt.outsL_len];rfl
 obtain⟨L,hL⟩:=pE (Nt.outsL fs i);obtain⟨a,ha⟩:=pE (Nt.insN fs i);obtain⟨k,hk⟩:=pE (Nt.kindAt ns i);obtain⟨n,hnn⟩:=pE (ns.length);obtain⟨m,hmm⟩:=pE (fs.length);obtain⟨r,hr⟩:=pE (Nt.threeB ns fs i);rw[hL,ha,hk,hr]at hthree;rw[ha]at hins;simp only[hL]at houts hoL;rw[hL,ha]at hbd;obtain⟨b,hb⟩:=pE (L.length);rw[hb]at houts hbd hthree;rw[hnn,hmm]at hins houts hW0 G0;rw[hmm]at hfl;rw[hnn]at hnl hi;rw[hr,hnn,hmm];have CI:Hid _:=hins;have CO:Hid _:=houts;have NK:Hid (∀x:Nat,x<n->∃g o2,an=some ⟨g,o2,none⟩/\g<w.heap.size/\∀W,Below w.heap.size w W->W.cell? ⟨g,o2+x*5,none⟩=some (.int .i64 (Nt.kindAt ns x))):=λx hx=>hnk x (by omega)
 have FK:Hid (∀k:Nat,k<m->∃g o2 x,af=some ⟨g,o2,none⟩/\g<w.heap.size/\x<n/\Nt.othAt ns fs k= !decide (Nt.kindAt ns x=8)/\∀W,Below w.heap.size w W->W.cell? ⟨g,o2+k*6+1,none⟩=some (.int .i64 ((x:Nat):Int))/\W.cell? ⟨g,o2+k*6+2,none⟩=some (.bool (Nt.elsAt fs k))):=λk hk=>by
  obtain⟨g,o2,x,h1,h2,h3,h4⟩:=hfk k (by omega);exact⟨g,o2,x,h1,h2,by omega,h4⟩
 have HX:Hid (∀W,Below W0.heap.size W0 W->W.cell? ⟨w.heap.size,0,none⟩=some (.slice an n cn)/\W.cell? ⟨w.heap.size,1,none⟩=some (.slice af m cf)/\Below w.heap.size w W):=λW hb=>by
  obtain⟨p0,p1⟩:=Nt.box2 ((hb.block _ (Nt.lt_of G0)).trans G0);exact⟨p0,p1,A0.trans (hb.mono A0.size)⟩
 have HL:Hid ((∀j (h:j<L.length),L[j]<m)/\L.length=b/\Nt.kindAt ns i=k):=⟨λj h=>by have:=hoL j h;omega,hb,hk⟩;have HT:Hid (r=Nt.joinB k a b (L.countP (Nt.elsAt fs)) (L.countP (Nt.othAt ns fs))):=hthree;have HW0:Hid (w.alloc (.cells #[.slice an n cn,.slice af m cf] 30)=W0):=hW0;have BR:Hid (Below W0.heap.size W0 W0):=Below.refl _ _;have hi':(i:Int)<n:=by omega
 have hi0:(0:Int)<=i:=by omega
 obtain⟨hba,hbb⟩:=hbd;have HWL:Hid (w.heap.size<W0.heap.size):=Nt.lt_of G0;clear hH hto hins houts hnk hfk hoL hthree hL ha hk hnn hmm hr hb hW0 A0 G0
 go_enter Tryz.func112,Tryz.ntmps112
 go_wp2_with fail
 rw[HW0.out];refine Calls.mono (CI.out W0 BR.out) ?_;rintro e W1 ⟨a1,c1,rfl,B1⟩;obtain⟨p0,p1,-⟩:=HX.out W1 B1.out;clear CI HW0
 go_wp2_with fail
 refine Calls.mono (CO.out W1 B1.out) ?_;rintro e W2 ⟨a2,c2,rfl,B2⟩;clear CO p0 p1;go_wp2
 go_loopg [8,9,11,23] b (λgk s8 s9 _ s23 wr=>∃(j el ot:Nat),gk+j=b/\s23=.int .i64 j/\s8=.int .i64 el/\s9=.int .i64 ot/\el<=j/\ot<=j/\Hid (Below w.heap.size w wr/\Below W2.heap.size W2 wr/\(L.take j).countP (Nt.elsAt fs)=el/\(L.take j).countP (Nt.othAt ns fs)=ot))
 case atStart=>exact⟨0,0,0,by omega,rfl,rfl,rfl,Nat.le_refl _,Nat.le_refl _,(HX.out W2 B2.out.1).2.2,Below.refl _ _,by simp,by simp⟩
 case round=>
  obtain⟨j,el,ot,hj,rfl,rfl,rfl,he,ho,HI⟩:=hrel;have hwbx:Below W0.heap.size W0 wr:=B2.out.1.trans (HI.out.2.1.mono B2.out.1.size);obtain⟨p0,p1,-⟩:=HX.out wr hwbx;clear hwbx
  by_cases hlt:j<b
  ·have hd:decide ((j:Int)<b)=true:=decide_eq_true (by omega)
   have hjL:j<L.length:=by rw[HL.out.2.1];exact hlt
   obtain⟨gq,rfl,hgq,hcq⟩:=B2.out.2 j L[j] (List.getElem?_eq_getElem hjL);have hkm:=HL.out.1 j hjL;obtain⟨kk,hkk⟩:=pE (L[j]);rw[hkk]at hcq hkm;have hcw:wr.cell? ⟨gq,j,none⟩=some (.int .i64 kk):=by rw[HI.out.2.1.cell (p:=⟨gq,j,none⟩) hgq];exact hcq
   obtain⟨g,o2,x,rfl,hg,hx,hoth,hcf⟩:=FK.out kk hkm;obtain⟨q1,q2⟩:=hcf wr HI.out.1;obtain⟨gn,on,rfl,hgn,hkc⟩:=NK.out x hx;have q3:=hkc wr HI.out.1;obtain⟨kx,hkx⟩:=pE (Nt.kindAt ns x);obtain⟨ev,hev⟩:=pE (Nt.elsAt fs kk);rw[hkx]at q3 hoth;rw[hev]at q2;have hkm':(kk:Int)<m:=by omega
   have hkk0:(0:Int)<=kk:=by omega
   have hx':(x:Int)<n:=by omega
   have hx0:(0:Int)<=x:=by omega
   have hwe:IntKind.i64.wrap ((el:Int)+1)=((el+1:Nat):Int):=by rw[IntKind.wrap_i64];omega
   have hwo:IntKind.i64.wrap ((ot:Int)+1)=((ot+1:Nat):Int):=by rw[IntKind.wrap_i64];omega
   have HE2:Hid ((L.take (j+1)).countP (Nt.elsAt fs)=el+if ev=true then 1 else 0):=by
    show _=_;rw[Tm.take_snoc _ _ hjL,List.countP_append,HI.out.2.2.1,List.countP_singleton,hkk,hev]
   have HO2:Hid ((L.take (j+1)).countP (Nt.othAt ns fs)=ot+if(!decide (kx=8))=true then 1 else 0):=by
    show _=_;rw[Tm.take_snoc _ _ hjL,List.countP_append,HI.out.2.2.2,List.countP_singleton,hkk,hoth]
   have BD:Hid (∀q,Below w.heap.size w (wr.drewN q)/\Below W2.heap.size W2 (wr.drewN q)):=λq=>⟨Tk.below_drewN HI.out.1 q,Tk.below_drewN HI.out.2.1 q⟩;have hgw:gn<wr.heap.size:=by have:=HI.out.1.size;omega
   clear hcq hkk hoth hcf hkc hkx hev hgq
   by_cases h8:kx=8
   ·have e8:(kx !=8)=false:=by simpa using h8
    rw[decide_eq_true h8]at HO2;clear h8
    cases ev
    ·go_upto_region 11 with fail
     go_quiet (fail)
     go_wp2;go_roundg (gk-1)
     case measure=>omega
     case rel=>exact⟨j+1,el,ot,by omega,by go_num,rfl,rfl,by omega,by omega,(BD.out _).1,(BD.out _).2,by simpa using HE2.out,by simpa using HO2.out⟩
    go_upto_region 11 with fail
    go_quiet (fail)
    go_wp2;go_roundg (gk-1)
    case measure=>omega
    case rel=>exact⟨j+1,el+1,ot,by omega,by go_num,by go_num,rfl,by omega,by omega,(BD.out _).1,(BD.out _).2,by simpa using HE2.out,by simpa using HO2.out⟩
   have e8:(kx !=8)=true:=by simpa using h8
   rw[decide_eq_false h8]at HO2;clear h8
   cases ev
   ·go_upto_region 11 with fail
    go_quiet (fail)
    go_wp2;go_roundg (gk-1)
    case measure=>omega
    case rel=>exact⟨j+1,el,ot+1,by omega,by go_num,rfl,by go_num,by omega,by omega,(BD.out _).1,(BD.out _).2,by simpa using HE2.out,by simpa using HO2.out⟩
   go_upto_region 11 with fail
   go_quiet (fail)
   go_wp2;go_roundg (gk-1)
   case measure=>omega
   case rel=>exact⟨j+1,el+1,ot+1,by omega,by go_num,by go_num,by go_num,by omega,by omega,(BD.out _).1,(BD.out _).2,by simpa using HE2.out,by simpa using HO2.out⟩
  have hd:decide ((j:Int)<b)=false:=decide_eq_false (by omega);obtain⟨gn,on,rfl,hgn,hkc⟩:=NK.out i hi;have q3:=hkc wr HI.out.1;rw[HL.out.2.2]at q3
  have HR2:Hid (Nt.joinB k a b el ot=r):=by
   show _=_;have h3:=HI.out.2.2.1;have h4:=HI.out.2.2.2;rw[List.take_of_length_le (by rw[HL.out.2.1];omega)]at h3 h4;rw[HT.out,h3,h4]
  have hgw:gn<wr.heap.size:=by have:=HI.out.1.size;omega
  have hA:(((a:Int)==0)=true/\((a:Int)==1)=false/\decide ((2:Int)<=a)=false/\Hid (a=0))∨(((a:Int)==0)=false/\((a:Int)==1)=true/\decide ((2:Int)<=a)=false/\Hid (a=1))∨(((a:Int)==0)=false/\((a:Int)==1)=false/\decide ((2:Int)<=a)=true/\Hid (2<=a)):=by
   rcases Nat.lt_or_ge a 1 with h|h
   ·exact .inl ⟨by simp;omega,by simp;omega,by simp;omega,by show a=0;omega⟩
   rcases Nat.lt_or_ge a 2 with h|h
   ·exact .inr (.inl ⟨by simp;omega,by simp;omega,by simp;omega,by show a=1;omega⟩)
   exact .inr (.inr ⟨by simp;omega,by simp;omega,by simp;omega,h⟩)
  have hB:(((b:Int)==0)=true/\((b:Int)==1)=false/\decide ((2:Int)<=b)=false/\Hid (b=0))∨(((b:Int)==0)=false/\((b:Int)==1)=true/\decide ((2:Int)<=b)=false/\Hid (b=1))∨(((b:Int)==0)=false/\((b:Int)==1)=false/\decide ((2:Int)<=b)=true/\Hid (2<=b)):=by
   rcases Nat.lt_or_ge b 1 with h|h
   ·exact .inl ⟨by simp;omega,by simp;omega,by simp;omega,by show b=0;omega⟩
   rcases Nat.lt_or_ge b 2 with h|h
   ·exact .inr (.inl ⟨by simp;omega,by simp;omega,by simp;omega,by show b=1;omega⟩)
   exact .inr (.inr ⟨by simp;omega,by simp;omega,by simp;omega,h⟩)
  have hE:(((el:Int)==1)=true/\Hid (el=1))∨(((el:Int)==1)=false/\Hid (¬el=1)):=by
   by_cases h:el=1
   ·exact .inl ⟨by simp;omega,h⟩
   exact .inr ⟨by simp;omega,h⟩
  have hO:(((ot:Int)==0)=true/\Hid (ot=0))∨(((ot:Int)==0)=false/\Hid (¬ot=0)):=by
   by_cases h:ot=0
   ·exact .inl ⟨by simp;omega,h⟩
   exact .inr ⟨by simp;omega,h⟩
  clear hkc NK FK HT HL B2 BR hj he ho
  by_cases k1:k=1
  ·subst k1
   have HR3:Hid (decide (a=0/\b=1)=r):=by show _=_;rw[<-HR2.out];simp[Nt.joinB]
   rcases hA with⟨a0,a1,a2,a3⟩|⟨a0,a1,a2,a3⟩|⟨a0,a1,a2,a3⟩<;>rcases hB with⟨b0,b1,b2,b3⟩|⟨b0,b1,b2,b3⟩|⟨b0,b1,b2,b3⟩
   all_goals
    go_wp2;go_ret;refine⟨Tk.ret_bool ?_,HI.out.1⟩;rw[<-HR3.out];have x1:=a3.out;have x2:=b3.out
    first|exact(decide_eq_true (by omega)).symm|exact(decide_eq_false (by omega)).symm
  by_cases k2:k=2
  ·subst k2
   have HR3:Hid (decide (a=1/\b=0)=r):=by show _=_;rw[<-HR2.out];simp[Nt.joinB]
   rcases hA with⟨a0,a1,a2,a3⟩|⟨a0,a1,a2,a3⟩|⟨a0,a1,a2,a3⟩<;>rcases hB with⟨b0,b1,b2,b3⟩|⟨b0,b1,b2,b3⟩|⟨b0,b1,b2,b3⟩
   all_goals
    go_wp2;go_ret;refine⟨Tk.ret_bool ?_,HI.out.1⟩;rw[<-HR3.out];have x1:=a3.out;have x2:=b3.out
    first|exact(decide_eq_true (by omega)).symm|exact(decide_eq_false (by omega)).symm
  by_cases k5:k=5
  ·subst k5
   have HR3:Hid (decide ((a=1/\2<=b/\el=1)∨(2<=a/\b=1))=r):=by show _=_;rw[<-HR2.out];simp[Nt.joinB]
   rcases hA with⟨a0,a1,a2,a3⟩|⟨a0,a1,a2,a3⟩|⟨a0,a1,a2,a3⟩<;>rcases hB with⟨b0,b1,b2,b3⟩|⟨b0,b1,b2,b3⟩|⟨b0,b1,b2,b3⟩<;>rcases hE with⟨e0,e1⟩|⟨e0,e1⟩
   all_goals
    go_wp2;go_ret;refine⟨Tk.ret_bool ?_,HI.out.1⟩;rw[<-HR3.out];have x1:=a3.out;have x2:=b3.out;have x3:=e1.out
    first|exact(decide_eq_true (by omega)).symm|exact(decide_eq_false (by omega)).symm
  by_cases k6:k=6
  ·subst k6
   have HR3:Hid (decide ((a=1/\2<=b)∨(2<=a/\b=1))=r):=by show _=_;rw[<-HR2.out];simp[Nt.joinB]
   rcases hA with⟨a0,a1,a2,a3⟩|⟨a0,a1,a2,a3⟩|⟨a0,a1,a2,a3⟩<;>rcases hB with⟨b0,b1,b2,b3⟩|⟨b0,b1,b2,b3⟩|⟨b0,b1,b2,b3⟩
   all_goals
    go_wp2;go_ret;refine⟨Tk.ret_bool ?_,HI.out.1⟩;rw[<-HR3.out];have x1:=a3.out;have x2:=b3.out
    first|exact(decide_eq_true (by omega)).symm|exact(decide_eq_false (by omega)).symm
  by_cases k7:k=7
  ·subst k7
   have HR3:Hid (decide (a=1/\2<=b/\ot=0)=r):=by show _=_;rw[<-HR2.out];simp[Nt.joinB]
   rcases hA with⟨a0,a1,a2,a3⟩|⟨a0,a1,a2,a3⟩|⟨a0,a1,a2,a3⟩<;>rcases hB with⟨b0,b1,b2,b3⟩|⟨b0,b1,b2,b3⟩|⟨b0,b1,b2,b3⟩<;>rcases hO with⟨e0,e1⟩|⟨e0,e1⟩
   all_goals
    go_wp2;go_ret;refine⟨Tk.ret_bool ?_,HI.out.1⟩;rw[<-HR3.out];have x1:=a3.out;have x2:=b3.out;have x3:=e1.out
    first|exact(decide_eq_true (by omega)).symm|exact(decide_eq_false (by omega)).symm
  have f1:(k==1)=false:=by simpa using k1
  have f2:(k==2)=false:=by simpa using k2
  have f5:(k==5)=false:=by simpa using k5
  have f6:(k==6)=false:=by simpa using k6
  have f7:(k==7)=false:=by simpa using k7
  have HR3:Hid (decide (a=1/\b=1)=r):=by show _=_;rw[<-HR2.out,Nt.joinB,if_neg k1,if_neg k2,if_neg k5,if_neg k6,if_neg k7]
  clear k1 k2 k5 k6 k7
  rcases hA with⟨a0,a1,a2,a3⟩|⟨a0,a1,a2,a3⟩|⟨a0,a1,a2,a3⟩<;>rcases hB with⟨b0,b1,b2,b3⟩|⟨b0,b1,b2,b3⟩|⟨b0,b1,b2,b3⟩
  all_goals
   go_wp2;go_ret;refine⟨Tk.ret_bool ?_,HI.out.1⟩;rw[<-HR3.out];have x1:=a3.out;have x2:=b3.out
   first|exact(decide_eq_true (by omega)).symm|exact(decide_eq_false (by omega)).symm
end Go.Proofs
