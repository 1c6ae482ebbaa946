import Derived.Test.YtenaelpdnccgnaaGreatDoorQAcModel
import Derived.Deep.RegionHeld3
import Derived.Deep.DeepCutAuto
set_option maxRecDepth 100000
set_option maxHeartbeats 32000000
namespace Go.Proofs
open Go.RowKit
def Ak.Wy (b:Nat)(lv k:Nat)(w:World):Prop:=w.heap[b]? =some (.cells #[.func (.func 60) #[] #[],.int .i64 lv,.int .i64 k] 80 (0,0))
theorem Ak.Wy.lt {b lv k:Nat}{w:World}(h:Ak.Wy b lv k w):b<w.heap.size:=(Array.getElem?_eq_some_iff.1 h).1
theorem Ak.Wy.c0 {b lv k:Nat}{w:World}(h:Ak.Wy b lv k w):w.cell? ⟨b,0,none⟩=some (.func (.func 60) #[] #[]):=by simp only[Ak.Wy]at h;simp[World.cell?,h]
theorem Ak.Wy.c2 {b lv k:Nat}{w:World}(h:Ak.Wy b lv k w):w.cell? ⟨b,2,none⟩=some (.int .i64 k):=by simp only[Ak.Wy]at h;simp[World.cell?,h]
theorem Ak.Wy.f2 {b lv k:Nat}{w:World}(h:Ak.Wy b lv k w):w.frozen? ⟨b,2,none⟩=false:=by simp only[Ak.Wy]at h;simp[World.frozen?,h]
theorem Ak.Wy.put {b lv k:Nat}{w:World}(h:Ak.Wy b lv k w)(k':Nat):Ak.Wy b lv k' (w.setCell ⟨b,2,none⟩ (.int .i64 k')):=by
 unfold Ak.Wy at*;simp[World.setCell,Array.getElem?_modify,h]
theorem Ak.Wy.keep {b lv k:Nat}{w w':World}(h:Ak.Wy b lv k w)(hk:w'.heap[b]? =w.heap[b]?):Ak.Wy b lv k w':=by unfold Ak.Wy;rw[hk];exact h
theorem Tryz.aenter_no (b:Nat)(w:World):
  Calls Tryz.prog 87 #[.pointer (some ⟨b,0,none⟩),.int .i64 0] w λe w'=>e=.returned (.bool false)/\w'=w:=by
 go_enter Tryz.func87,Tryz.ntmps87
 go_wp2;go_ret;exact⟨rfl,rfl⟩
theorem Tryz.aenter_none (b lv L:Nat)(w:World)(h:Ak.Wy b lv 0 w):
  Calls Tryz.prog 87 #[.pointer (some ⟨b,0,none⟩),.int .i64 ((L:Int)+1)] w λe w'=>e=.returned (.bool false)/\w'=w:=by
 have c2:=h.c2;have e1:decide (((L:Int)+1)<=0)=false:=decide_eq_false (by omega)
 go_enter Tryz.func87,Tryz.ntmps87
 go_wp2;go_ret;exact⟨rfl,rfl⟩
theorem Tryz.aenter_yes (b lv k L:Nat)(w:World)(h:Ak.Wy b lv (k+1) w)(hk:k<=2147483647):
  Calls Tryz.prog 87 #[.pointer (some ⟨b,0,none⟩),.int .i64 ((L:Int)+1)] w λe w'=>e=.returned (.bool true)/\w'=w.setCell ⟨b,2,none⟩ (.int .i64 k):=by
 have c2:=h.c2;have f2:=h.f2;have e1:decide (((L:Int)+1)<=0)=false:=decide_eq_false (by omega);have e2:decide (((k+1:Nat):Int)<=0)=false:=decide_eq_false (by omega);have e3:((k+1:Nat):Int)-1=k:=by omega
 go_enter Tryz.func87,Tryz.ntmps87
 go_wp2;go_ret;exact⟨rfl,rfl⟩
theorem Tryz.akids_any (x0 x1 x2 x3 x4 x5 x6 x7 x9 x10 x11:Value)(a:Option Addr)(n cap:Nat)(w:World):
  Calls Tryz.prog 60 #[.agg #[x0,x1,x2,x3,x4,x5,x6,x7,.slice a n cap,x9,x10,x11]] w λe w'=>e=.returned (.slice a n cap)/\Below w.heap.size w w':=by
 have B0:Hid (Below w.heap.size w (w.alloc (.cells #[x0,x1,x2,x3,x4,x5,x6,x7,.slice a n cap,x9,x10,x11] 32))):=(Below.refl _ w).alloc (Nat.le_refl _) _
 go_enter Tryz.func60,Tryz.ntmps60
 go_wp2;go_ret;exact⟨rfl,B0.out⟩
structure Ak.Stepped {St:Type}(step:Ac->St->Bool×St)(P:Ac->Prop)(g:Nat)(lb:Array Value)(Inv:St->World->Prop)(E:Nat->Prop)(B e bw:Nat):Prop where
 enters:∀args w,(callFunc g args).run Tryz.prog w=.ok (.enter g args) w
 calls:∀(s:St) (W:World) (d:Nat) (T:Ac) (V:Ac.Vs),P T->Inv s W->B<=W.heap.size->Ac.Lies W B e d V T->Calls Tryz.prog g (#[.agg (Ac.row T V)]++lb) W λe w'=>e=.returned (.bool (step T s).1)/\Inv (step T s).2 w'/\Tk.But E W w'
 keeps:∀(s:St) (W W':World),Inv s W->Tk.But (λk=>k=bw) W W'->Inv s W'
 above:∀k,E k->B<=k
 not_bw:¬E bw
def Ak.GoEnd {St:Type}(step:Ac->St->Bool×St)(Inv:St->World->Prop)(E:Nat->Prop)(T:Ac)(L lv left:Nat)(s:St)(bw:Nat)(w:World)(e:Ending)(w':World):Prop:=
 Tk.But (λk=>k=bw∨E k) w w'/\((T.depth<=L/\T.size<=left/\Inv (T.go step s).2 w'/\e=.returned (.bool (T.go step s).1)/\((T.go step s).1=true->Ak.Wy bw lv (left-T.size) w'))∨(¬(T.depth<=L/\T.size<=left)/\e=.returned (.bool false)))
theorem Ak.GoEnd.stop {St:Type}{step:Ac->St->Bool×St}{Inv:St->World->Prop}{E:Nat->Prop}{T:Ac}{L lv left:Nat}{s s':St}{bw:Nat}{w w':World}(hb:Tk.But (λk=>k=bw∨E k) w w')(hg:T.go step s=(false,s'))(hi:Inv s' w'):Ak.GoEnd step Inv E T L lv left s bw w (.returned (.bool false)) w':=by
 refine⟨hb, ?_⟩
 by_cases h:T.depth<=L/\T.size<=left
 ·exact .inl ⟨h.1,h.2,by rw[hg];exact hi,by rw[hg],by rw[hg];intro e;cases e⟩
 exact .inr ⟨h,rfl⟩
theorem Tryz.ago_any {St:Type}{step:Ac->St->Bool×St}{P:Ac->Prop}{g:Nat}{lb:Array Value}{Inv:St->World->Prop}{E:Nat->Prop}{B e bw:Nat}(hS:Ak.Stepped step P g lb Inv E B e bw)(lv:Nat):∀(d L:Nat) (T:Ac) (V:Ac.Vs) (left:Nat) (s:St) (w:World),Ac.Lies w B e d V T->0<B->B<=bw->B<=w.heap.size->Ak.Wy bw lv left w->Inv s w->(∀k,E k->k<w.heap.size)->left<=2147483647->L<=1000->T.size<=2147483647->T.All P->
  Calls Tryz.prog 68 #[.pointer (some ⟨bw,0,none⟩),.agg (Ac.row T V),.int .i64 L,.func (.func g) #[] lb] w (Ak.GoEnd step Inv E T L lv left s bw w):=by
 intro d
 induction d with
 |zero=>intro L T V left s w h;exact h.elim
 |succ d ih=>
  intro L T V left s w hT hB hbw hBs hW hI hEw hleft hL hsz hAll;rw[T.all_eq]at hAll;have HLK:Hid (P T/\Ac.Alls P T.ks):=hAll;clear hAll;obtain⟨a,cap,hvk⟩:=hT.kids;obtain⟨n,hn⟩:=pE (T.ks.length);rw[hn]at hvk;obtain⟨x0,x1,x2,x3,x4,x5,x6,x7,x9,x10,x11,hrow⟩:∃x0 x1 x2 x3 x4 x5 x6 x7 x9 x10 x11,Ac.row T V=#[x0,x1,x2,x3,x4,x5,x6,x7,.slice a n cap,x9,x10,x11]:=⟨_,_,_,_,_,_,_,_,_,_,_,by unfold Ac.row;rw[hvk]⟩;rw[hrow];have HR:Hid (Ac.row T V=#[x0,x1,x2,x3,x4,x5,x6,x7,.slice a n cap,x9,x10,x11]/\V.k=.slice a n cap/\T.ks.length=n):=⟨hrow,hvk,hn⟩
  cases L with
  |zero=>
   have HZ:Hid (¬T.depth<=0):=by show¬_;rw[T.depth_eq];omega
   clear ih hT hW hI hn hvk hrow
   go_enter Tryz.func68,Tryz.ntmps68
   go_wp2_with fail
   refine(Tryz.aenter_no bw _).mono ?_;rintro e W1 ⟨rfl,rfl⟩;go_wp2;go_ret;exact⟨Tk.But.of_below ((Below.refl _ w).alloc (Nat.le_refl _) _),.inr ⟨λh=>HZ.out h.1,rfl⟩⟩
  |succ L=>
   have A0:Hid (Below w.heap.size w (w.alloc (.cells #[x0,x1,x2,x3,x4,x5,x6,x7,.slice a n cap,x9,x10,x11] 32))):=(Below.refl _ w).alloc (Nat.le_refl _) _
   cases left with
   |zero=>
    have W0:Ak.Wy bw lv 0 (w.alloc (.cells #[x0,x1,x2,x3,x4,x5,x6,x7,.slice a n cap,x9,x10,x11] 32)):=hW.keep (A0.out.block bw hW.lt);have HZ:Hid (¬T.size<=0):=by show¬_;have:=T.size_pos;omega
    clear ih hT hW hI hn hvk hrow
    go_enter Tryz.func68,Tryz.ntmps68
    go_wp2_with fail
    refine(Tryz.aenter_none bw lv L _ W0).mono ?_;rintro e W1 ⟨rfl,rfl⟩;go_wp2;go_ret;exact⟨Tk.But.of_below A0.out,.inr ⟨λh=>HZ.out h.2,rfl⟩⟩
   |succ k=>
   have W0:Ak.Wy bw lv (k+1) (w.alloc (.cells #[x0,x1,x2,x3,x4,x5,x6,x7,.slice a n cap,x9,x10,x11] 32)):=hW.keep (A0.out.block bw hW.lt);have HT:Hid (Ac.Lies w B e (d+1) V T):=hT;have HW:Hid (Ak.Wy bw lv (k+1) w):=hW;have HV:Hid (Inv s w):=hI;have HN:Hid (0<B/\B<=bw/\B<=w.heap.size/\T.size<=2147483647/\k+1<=2147483647/\(∀k,E k->k<w.heap.size)):=⟨hB,hbw,hBs,hsz,hleft,hEw⟩;have HI:Hid _:=ih;have HS:Hid (Ak.Stepped step P g lb Inv E B e bw):=hS;have eg:=hS.enters;have hLb:L<=1000:=by omega
   have hnb:n<=2147483647:=by have h1:=Ac.length_le_sizes T.ks;have h2:=T.size_eq;omega
   obtain⟨q,hq⟩:=pE ((step T s).1);obtain⟨s1,hs1⟩:=pE ((step T s).2);have HQ:Hid ((step T s).1=q/\(step T s).2=s1):=⟨hq,hs1⟩;clear ih hT hW hI hn hvk hrow hB hbw hBs hsz hleft hL hEw hS hq hs1
   go_enter Tryz.func68,Tryz.ntmps68
   go_wp2_with fail
   refine(Tryz.aenter_yes bw lv k L _ W0 (by have:=HN.out;omega)).mono ?_;rintro e W1 ⟨rfl,hw1⟩
   have X1:Hid (Tk.But (λk=>k=bw) w W1):=by
    show Tk.But _ _ _;rw[hw1];exact(Tk.But.of_below A0.out).setCell (E:=λk=>k=bw) (p:=⟨bw,2,none⟩) rfl _
   have W1k:Hid (Ak.Wy bw lv k W1):=by show Ak.Wy _ _ _ _;rw[hw1];exact W0.put k
   have hbx:W1.heap[w.heap.size]? =some (.cells #[x0,x1,x2,x3,x4,x5,x6,x7,.slice a n cap,x9,x10,x11] 32 (0,0)):=by
    rw[hw1,Below.heap_setCell _ _ _ _ (by have:=HW.out.lt;show w.heap.size≠bw;omega)];exact heap_alloc_new w _
   have V1:Hid (Inv s W1):=HS.out.keeps s w W1 HV.out X1.out;clear W0 hw1
   have hE:Hid (∀i,i<B->¬(i=bw∨E i)):=λi hi h=>by
    rcases h with h|h
    ·have:=HN.out.2.1;omega
    have:=HS.out.above i h;omega
   have hcall:=HS.out.calls s W1 (d+1) T V HLK.out.1 V1.out (by have:=X1.out.size;have:=HN.out;omega) (HT.out.keep λi hi=>X1.out.block i (by have:=HN.out;omega) (λe=>hE.out i hi (.inl e)));rw[HR.out.1,HQ.out.1,HQ.out.2]at hcall;have p:W1.cell? ⟨w.heap.size,0,none⟩=some (x0)/\W1.cell? ⟨w.heap.size,1,none⟩=some (x1)/\W1.cell? ⟨w.heap.size,2,none⟩=some (x2)/\W1.cell? ⟨w.heap.size,3,none⟩=some (x3)/\W1.cell? ⟨w.heap.size,4,none⟩=some (x4)/\W1.cell? ⟨w.heap.size,5,none⟩=some (x5)/\W1.cell? ⟨w.heap.size,6,none⟩=some (x6)/\W1.cell? ⟨w.heap.size,7,none⟩=some (x7)/\W1.cell? ⟨w.heap.size,8,none⟩=some (.slice a n cap)/\W1.cell? ⟨w.heap.size,9,none⟩=some (x9)/\W1.cell? ⟨w.heap.size,10,none⟩=some (x10)/\W1.cell? ⟨w.heap.size,11,none⟩=some (x11):=by simp[World.cell?,hbx]
   obtain⟨p0,p1,p2,p3,p4,p5,p6,p7,p8,p9,p10,p11⟩:=p;have HC:Hid _:=hcall;clear hcall
   go_wp2_with fail
   refine Calls.mono HC.out ?_;rintro e W2 ⟨rfl,hV2,hb2⟩
   have X2:Hid (Tk.But (λk=>k=bw∨E k) w W2):=⟨hb2.os.trans X1.out.os,hb2.tape.trans X1.out.tape,hb2.output.trans X1.out.output,Nat.le_trans X1.out.size hb2.size,λi hi he=>by
    rw[hb2.block i (Nat.lt_of_lt_of_le hi X1.out.size) (λe=>he (.inr e))]
    exact X1.out.block i hi (λe=>he (.inl e))⟩
   have W2k:Ak.Wy bw lv k W2:=W1k.out.keep (hb2.block bw W1k.out.lt HS.out.not_bw);have V2:Hid (Inv s1 W2):=hV2
   have h2:W2.heap[w.heap.size]? =some (.cells #[x0,x1,x2,x3,x4,x5,x6,x7,.slice a n cap,x9,x10,x11] 32 (0,0)):=by
    rw[hb2.block _ (Array.getElem?_eq_some_iff.1 hbx).1 (by intro e;have:=HN.out.2.2.2.2.2 _ e;omega)];exact hbx
   have HK:Hid (Ak.Wy bw lv k W2):=W2k;have HB2:Hid _:=h2;clear hbx hV2 hb2 X1 W1k V1 p0 p1 p2 p3 p4 p5 p6 p7 p8 p9 p10 p11 HC W2k h2
   cases q with
   |false=>
    go_wp2;go_ret;have hg:T.go step s=(false,s1):=by rw[T.go_eq,HQ.out.1,HQ.out.2];rfl
    exact Ak.GoEnd.stop X2.out hg V2.out
   |true=>
   have CK:Hid (∀W,Below W2.heap.size W2 W->Calls Tryz.prog 60 #[.agg #[x0,x1,x2,x3,x4,x5,x6,x7,.slice a n cap,x9,x10,x11]] W λe w'=>e=.returned (.slice a n cap)/\Hid (Below W2.heap.size W2 w')):=λW hb=>
    (Tryz.akids_any x0 x1 x2 x3 x4 x5 x6 x7 x9 x10 x11 a n cap W).mono λ_ _ h=>⟨h.1,hb.trans (h.2.mono hb.size)⟩
   have BR:Hid (Below W2.heap.size W2 W2):=Below.refl _ _
   have ST:Hid (∀W,Below W2.heap.size W2 W->Tk.But (λk=>k=bw∨E k) w W/\Ak.Wy bw lv k W/\Inv s1 W):=λW hb=>
    ⟨X2.out.trans (Tk.But.of_below hb),HK.out.keep (hb.block bw HK.out.lt),HS.out.keeps _ _ _ V2.out (Tk.But.of_below hb)⟩
   have CF:Hid (∀W,Below W2.heap.size W2 W->W.cell? ⟨bw,0,none⟩=some (.func (.func 60) #[] #[])/\W.cell? ⟨w.heap.size,0,none⟩=some (x0)/\W.cell? ⟨w.heap.size,1,none⟩=some (x1)/\W.cell? ⟨w.heap.size,2,none⟩=some (x2)/\W.cell? ⟨w.heap.size,3,none⟩=some (x3)/\W.cell? ⟨w.heap.size,4,none⟩=some (x4)/\W.cell? ⟨w.heap.size,5,none⟩=some (x5)/\W.cell? ⟨w.heap.size,6,none⟩=some (x6)/\W.cell? ⟨w.heap.size,7,none⟩=some (x7)/\W.cell? ⟨w.heap.size,8,none⟩=some (.slice a n cap)/\W.cell? ⟨w.heap.size,9,none⟩=some (x9)/\W.cell? ⟨w.heap.size,10,none⟩=some (x10)/\W.cell? ⟨w.heap.size,11,none⟩=some (x11)):=λW hb=>by
    have e1:=(hb.block w.heap.size (Array.getElem?_eq_some_iff.1 HB2.out).1).trans HB2.out;refine⟨(HK.out.keep (hb.block bw HK.out.lt)).c0, ?_⟩;simp[World.cell?,e1]
   clear X2 V2 HK HB2 eg
   go_wp2_with fail
   go_region_held3 (λW=>W.cell? ⟨bw,0,none⟩=some (.func (.func 60) #[] #[])/\W.cell? ⟨w.heap.size,0,none⟩=some (x0)/\W.cell? ⟨w.heap.size,1,none⟩=some (x1)/\W.cell? ⟨w.heap.size,2,none⟩=some (x2)/\W.cell? ⟨w.heap.size,3,none⟩=some (x3)/\W.cell? ⟨w.heap.size,4,none⟩=some (x4)/\W.cell? ⟨w.heap.size,5,none⟩=some (x5)/\W.cell? ⟨w.heap.size,6,none⟩=some (x6)/\W.cell? ⟨w.heap.size,7,none⟩=some (x7)/\W.cell? ⟨w.heap.size,8,none⟩=some (.slice a n cap)/\W.cell? ⟨w.heap.size,9,none⟩=some (x9)/\W.cell? ⟨w.heap.size,10,none⟩=some (x10)/\W.cell? ⟨w.heap.size,11,none⟩=some (x11))
    (first|exact CF.out _ B3.out|exact CF.out _ BR.out.drew|exact CF.out _ BR.out)
    (first
    |(go_simp;go_at_call 60;refine Calls.mono (CK.out _ ?_) ?_;(first|exact BR.out|exact BR.out.drew|exact Tk.below_drewN BR.out _);rintro e W3 ⟨rfl,B3⟩))
   have HB3:Hid (Below W2.heap.size W2 W3):=B3;clear CK BR CF B3;go_simp;go_wp2
   go_loopg [28] n (λgk i wr=>∃j:Nat,gk+j=n/\i=.int .i64 j/\Hid (Tk.But (λk=>k=bw∨E k) w wr/\Ak.Wy bw lv (k-Ac.sizes (T.ks.take j)) wr/\Ac.depths (T.ks.take j)<=L/\Ac.sizes (T.ks.take j)<=k/\∃sj,Ac.goes step (T.ks.take j) s1=(true,sj)/\Inv sj wr))
   case atStart=>
    have h3:=ST.out _ HB3.out;exact⟨0,by omega,rfl,h3.1,by simpa [Ac.sizes]using h3.2.1,by simp[Ac.depths],by simp[Ac.sizes],s1,by simp[Ac.goes],h3.2.2⟩
   case round=>
    obtain⟨j,hj,rfl,HJ⟩:=hrel;clear ST HB3;have HJ0:=HJ.out;obtain⟨hJ1,hJ2,hJd,hJs,sj,hJ3,hJ4⟩:=HJ0;have HJ':Hid (Tk.But (λk=>k=bw∨E k) w wr/\Ak.Wy bw lv (k-Ac.sizes (T.ks.take j)) wr/\Ac.goes step (T.ks.take j) s1=(true,sj)/\Inv sj wr/\Ac.depths (T.ks.take j)<=L/\Ac.sizes (T.ks.take j)<=k):=⟨hJ1,hJ2,hJ3,hJ4,hJd,hJs⟩;clear HJ hJ1 hJ2 hJ3 hJ4 hJd hJs;have HJ:=HJ';clear HJ'
    by_cases hjn:j<n
    rotate_left
    ·have hd:decide ((j:Int)<n)=false:=decide_eq_false (by omega)
     go_wp2;go_ret;have hall:T.ks.take j=T.ks:=List.take_of_length_le (by rw[HR.out.2.2];omega);have HZ:=HJ.out;rw[hall]at HZ;have h2:=T.depth_eq;have h3:=T.size_eq;have hg:T.go step s=(true,sj):=by rw[T.go_eq,HQ.out.1,HQ.out.2,if_pos rfl,HZ.2.2.1]
     refine⟨HZ.1,.inl ⟨by have:=HZ.2.2.2.2.1;omega,by have:=HZ.2.2.2.2.2;omega,by rw[hg];exact HZ.2.2.2.1,(by rw[hg];rfl),λ_=> ?_⟩⟩;rw[h3,show k+1-(Ac.sizes T.ks+1)=k-Ac.sizes T.ks by omega];exact HZ.2.1
    have hd:decide ((j:Int)<n)=true:=decide_eq_true (by omega);have hjk:j<T.ks.length:=by rw[HR.out.2.2];exact hjn
    obtain⟨g',off,U,rfl,hg,hrw,hlu⟩:=HT.out.kid HR.out.2.1 j hjk;obtain⟨x,hx⟩:=pE (T.ks[j]);rw[hx]at hrw hlu;obtain⟨y0,y1,y2,y3,y4,y5,y6,y7,y8,y9,y10,y11,hyr⟩:∃y0 y1 y2 y3 y4 y5 y6 y7 y8 y9 y10 y11,Ac.row x U=#[y0,y1,y2,y3,y4,y5,y6,y7,y8,y9,y10,y11]:=⟨_,_,_,_,_,_,_,_,_,_,_,_,rfl⟩;rw[hyr]at hrw;have hc:∀p,wr.cell? ⟨g',p,none⟩=w.cell? ⟨g',p,none⟩:=λp=>World.cell?_of_block (w:=w) (HJ.out.1.block g' (by have:=HN.out;omega) (hE.out g' hg))
    have hcs:wr.cell? ⟨g',off+j*12,none⟩=some y0/\wr.cell? ⟨g',off+j*12+1,none⟩=some y1/\wr.cell? ⟨g',off+j*12+2,none⟩=some y2/\wr.cell? ⟨g',off+j*12+3,none⟩=some y3/\wr.cell? ⟨g',off+j*12+4,none⟩=some y4/\wr.cell? ⟨g',off+j*12+5,none⟩=some y5/\wr.cell? ⟨g',off+j*12+6,none⟩=some y6/\wr.cell? ⟨g',off+j*12+7,none⟩=some y7/\wr.cell? ⟨g',off+j*12+8,none⟩=some y8/\wr.cell? ⟨g',off+j*12+9,none⟩=some y9/\wr.cell? ⟨g',off+j*12+10,none⟩=some y10/\wr.cell? ⟨g',off+j*12+11,none⟩=some y11:=by
     exact⟨by rw[hc];exact hrw 0 (by simp),by rw[hc];exact hrw 1 (by simp),by rw[hc];exact hrw 2 (by simp),by rw[hc];exact hrw 3 (by simp),by rw[hc];exact hrw 4 (by simp),by rw[hc];exact hrw 5 (by simp),by rw[hc];exact hrw 6 (by simp),by rw[hc];exact hrw 7 (by simp),by rw[hc];exact hrw 8 (by simp),by rw[hc];exact hrw 9 (by simp),by rw[hc];exact hrw 10 (by simp),by rw[hc];exact hrw 11 (by simp)⟩
    obtain⟨hc0,hc1,hc2,hc3,hc4,hc5,hc6,hc7,hc8,hc9,hc10,hc11⟩:=hcs;have HY:Hid (T.ks[j]=x/\Ac.row x U=#[y0,y1,y2,y3,y4,y5,y6,y7,y8,y9,y10,y11]):=⟨hx,hyr⟩;have HL:Hid (Ac.Lies w B e d U x):=hlu
    have hsx:Hid (Ac.sizes (T.ks.take j)+x.size<=Ac.sizes T.ks):=by
     have h1:=Ac.sizes_get T.ks j hjk;rw[hx]at h1;exact h1
    clear hc hrw hlu hx hyr;have H1:Hid (#[y0,y1,y2,y3,y4,y5,y6,y7,y8,y9,y10,y11].all (·.oneCell')=true):=by show _=_;rw[<-HY.out.2];exact HL.out.ones
    have HK:Hid ((wr.alloc (.cells #[.int .i64 0,.int .i64 0,.int .i64 0,.int .i64 0,.int .i64 0,.int .i64 0,.slice none 0 0,.slice none 0 0,.slice none 0 0,.slice none 0 0,.slice none 0 0,.slice none 0 0] 32)).heap[wr.heap.size]? =some (.cells #[.int .i64 0,.int .i64 0,.int .i64 0,.int .i64 0,.int .i64 0,.int .i64 0,.slice none 0 0,.slice none 0 0,.slice none 0 0,.slice none 0 0,.slice none 0 0,.slice none 0 0] 32 (0,0))):=heap_alloc_new wr _;obtain⟨V0,hV0⟩:=pE ((wr.alloc (.cells #[.int .i64 0,.int .i64 0,.int .i64 0,.int .i64 0,.int .i64 0,.int .i64 0,.slice none 0 0,.slice none 0 0,.slice none 0 0,.slice none 0 0,.slice none 0 0,.slice none 0 0] 32)).setRow wr.heap.size #[y0,y1,y2,y3,y4,y5,y6,y7,y8,y9,y10,y11]);have HV0:Hid _:=hV0;have GV:V0.heap[wr.heap.size]? =some (.cells #[y0,y1,y2,y3,y4,y5,y6,y7,y8,y9,y10,y11] 32 (0,0)):=by show _=_;rw[<-hV0];exact setRow_heap _ _ _ _ _ _ HK.out
    have BV:Below wr.heap.size wr V0:=by
     rw[<-hV0];exact((Below.refl _ wr).alloc (Nat.le_refl _) _).trans ⟨rfl,rfl,rfl,by simp[World.setRow],λk hk=>setRow_other _ _ _ _ (by omega)⟩
    have vs:V0.cell? ⟨wr.heap.size,0,none⟩=some y0/\V0.cell? ⟨wr.heap.size,1,none⟩=some y1/\V0.cell? ⟨wr.heap.size,2,none⟩=some y2/\V0.cell? ⟨wr.heap.size,3,none⟩=some y3/\V0.cell? ⟨wr.heap.size,4,none⟩=some y4/\V0.cell? ⟨wr.heap.size,5,none⟩=some y5/\V0.cell? ⟨wr.heap.size,6,none⟩=some y6/\V0.cell? ⟨wr.heap.size,7,none⟩=some y7/\V0.cell? ⟨wr.heap.size,8,none⟩=some y8/\V0.cell? ⟨wr.heap.size,9,none⟩=some y9/\V0.cell? ⟨wr.heap.size,10,none⟩=some y10/\V0.cell? ⟨wr.heap.size,11,none⟩=some y11:=by simp[World.cell?,GV]
    obtain⟨v0,v1,v2,v3,v4,v5,v6,v7,v8,v9,v10,v11⟩:=vs;have BA:Hid (Tk.But (λk=>k=bw∨E k) w V0):=HJ.out.1.trans (Tk.But.of_below BV)
    have hcall:=HI.out L x U (k-Ac.sizes (T.ks.take j)) sj V0
     (HL.out.keep λi hi=>BA.out.block i (by have:=HN.out;omega) (hE.out i hi)) HN.out.1 HN.out.2.1 (by have:=HN.out;have:=BA.out.size;omega)
     (HJ.out.2.1.keep (BV.block bw HJ.out.2.1.lt)) (HS.out.keeps _ _ _ HJ.out.2.2.2.1 (Tk.But.of_below BV)) (λi hi=>by have:=HN.out.2.2.2.2.2 i hi;have:=BA.out.size;omega)
     (by have:=HN.out;omega) hLb (by have:=hsx.out;have:=HN.out;have:=T.size_eq;omega) (by have h:=Ac.alls_get HLK.out.2 j hjk;rw[HY.out.1]at h;exact h)
    rw[HY.out.2]at hcall;have HCL:Hid _:=hcall;clear hcall hV0 GV BV
    go_upto_region 6 with(refine wpList_store_row rfl 32 _ _ rfl wr.heap.size #[y0,y1,y2,y3,y4,y5,y6,y7,y8,y9,y10,y11] rfl rfl 32 _ HK.out (by kernel_rfl) rfl H1.out ?_)
    rw[HV0.out];clear HK HV0 H1
    go_wp2_with fail
    refine Calls.mono HCL.out ?_;rintro e W4 ⟨hb3,hend⟩;have B3:Hid (Tk.But (λk=>k=bw∨E k) w W4):=BA.out.trans hb3;clear hb3 HCL
    have hdx:Hid (x.depth<=Ac.depths T.ks):=by
     have h1:=Ac.depths_get T.ks j hjk;rw[HY.out.1]at h1;exact h1
    rcases hend with⟨h1,h2,hi3,rfl,h3⟩|⟨h1,rfl⟩
    ·obtain⟨gx,hgx⟩:=pE (x.go step sj)
     rw[hgx]at hi3 h3⊢;have HG:Hid (x.go step sj=gx/\Inv gx.2 W4/\x.depth<=L/\x.size<=k-Ac.sizes (T.ks.take j)/\(gx.1=true->Ak.Wy bw lv (k-Ac.sizes (T.ks.take j)-x.size) W4)):=⟨hgx,hi3,h1,h2,h3⟩
     have hsn:Hid (Ac.goes step (T.ks.take (j+1)) s1=gx):=by
      show _=_;rw[Ac.take_snoc _ _ hjk,Ac.goes_snoc,HJ.out.2.2.1,HY.out.1];simpa using hgx
     clear h1 h2 h3 hi3 hgx;obtain⟨gb,gs⟩:=gx
     cases gb with
     |true=>
      go_wp2;go_roundg (gk-1)
      case measure=>omega
      case rel=>
       have hz:=HJ.out.2.2.2.2;have hy:=HG.out.2.2;refine⟨j+1,by omega,by go_num,B3.out, ?_, ?_, ?_,gs,hsn.out,HG.out.2.1⟩
       ·rw[Ac.sizes_take _ _ hjk,HY.out.1,<-Nat.sub_sub];exact HG.out.2.2.2.2 (by first|rfl|trivial)
       ·rw[Ac.depths_take _ _ hjk,HY.out.1];omega
       rw[Ac.sizes_take _ _ hjk,HY.out.1];omega
     |false=>
      go_wp2;go_ret
      have hg:T.go step s=(false,gs):=by
       rw[T.go_eq,HQ.out.1,HQ.out.2,if_pos rfl,<-List.take_append_drop (j+1) T.ks];exact Ac.goes_stop step _ _ _ _ hsn.out
      exact Ak.GoEnd.stop B3.out hg HG.out.2.1
    have H3:Hid (¬(x.depth<=L/\x.size<=k-Ac.sizes (T.ks.take j))):=h1;clear h1;go_wp2;go_ret;refine⟨B3.out,.inr ⟨λh=>H3.out ?_,rfl⟩⟩;have h2:=T.depth_eq;have h3:=T.size_eq;have h4:=hsx.out;have h5:=hdx.out;exact⟨by omega,by omega⟩
end Go.Proofs
namespace Go.Proofs
open Go.RowKit Go.Shelf
theorem Ak.below_row {B:Nat}{a w:World}(h:Below B a w){g:Nat}(hg:B<=g)(cs:Array Value):Below B a (w.setRow g cs):=
 h.trans ⟨rfl,rfl,rfl,by simp[World.setRow],λk hk=>by
  simp only[World.setRow,Array.getElem?_modify]
  rw[if_neg (by omega)]⟩
theorem Tryz.away_any (L n:Int)(w:World):Calls Tryz.prog 39 #[.int .i64 L,.int .i64 n] w λe w'=>e=.returned (.agg #[.func (.func 60) #[] #[],.int .i64 L,.int .i64 n])/\Below w.heap.size w w':=by
 have hbk:=heap_alloc_new w (.cells #[.nilFunc,.int .i64 0,.int .i64 0] 80);have B0:Hid (Below w.heap.size w (w.alloc (.cells #[.nilFunc,.int .i64 0,.int .i64 0] 80))):=(Below.refl _ w).alloc (Nat.le_refl _) _;have HK:Hid _:=hbk
 go_enter Tryz.func39,Tryz.ntmps39
 go_wp2_with (refine wpList_store_row rfl 80 _ _ rfl w.heap.size _ rfl rfl 80 #[.nilFunc,.int .i64 0,.int .i64 0] (by exact HK.out) (by kernel_rfl) rfl (by kernel_rfl) ?_)
 refine bodyPost_ret (v:=.agg #[.func (.func 60) #[] #[],.int .i64 L,.int .i64 n]) (results_cell_row Tryz.results39 _ _ w.heap.size 80 #[.func (.func 60) #[] #[],.int .i64 L,.int .i64 n] (0,0) _ rfl (setRow_heap _ _ _ _ _ _ HK.out) Tryz.underlying80 rfl (by kernel_rfl)) rfl ⟨rfl, ?_⟩;exact Ak.below_row B0.out (Nat.le_refl _) _
def Ak.GoneThru {St:Type}(step:Ac->St->Bool×St)(Inv:St->World->Prop)(E:Nat->Prop)(T:Ac)(L left:Nat)(s:St)(w:World)(b:Bool)(w':World):Prop:=
 Tk.But E w w'/\((T.depth<=L/\T.size<=left/\Inv (T.go step s).2 w'/\b=(T.go step s).1)∨(¬(T.depth<=L/\T.size<=left)/\b=false))
theorem Tryz.anestThru_any {St:Type}{step:Ac->St->Bool×St}{P:Ac->Prop}{g:Nat}{lb:Array Value}{Inv:St->World->Prop}{E:Nat->Prop}{B e:Nat}(d L left:Nat)(s:St)(T:Ac)(V:Ac.Vs)(w:World)(hS:Ak.Stepped step P g lb Inv E B e w.heap.size)(hT:Ac.Lies w B e d V T)(hB:0<B)(hBs:B<=w.heap.size)(hI:Inv s w)(hE:∀k,E k->k<w.heap.size)(hleft:left<=2147483647)(hL:L<=1000)(hsz:T.size<=2147483647)(hP:T.All P):
  Calls Tryz.prog 41 #[.agg #[.func (.func 60) #[] #[],.int .i64 L,.int .i64 left],.agg (Ac.row T V),.func (.func g) #[] lb] w λe w'=>∃b,e=.returned (.bool b)/\Ak.GoneThru step Inv E T L left s w b w':=by
 obtain⟨x0,x1,x2,x3,x4,x5,x6,x7,x8,x9,x10,x11,hrow⟩:∃x0 x1 x2 x3 x4 x5 x6 x7 x8 x9 x10 x11,Ac.row T V=#[x0,x1,x2,x3,x4,x5,x6,x7,x8,x9,x10,x11]:=⟨_,_,_,_,_,_,_,_,_,_,_,_,rfl⟩;rw[hrow];obtain⟨w1,hw1⟩:=pE ((w.alloc (.cells #[.func (.func 60) #[] #[],.int .i64 L,.int .i64 left] 80)).alloc (.cells #[x0,x1,x2,x3,x4,x5,x6,x7,x8,x9,x10,x11] 32));have A1:Below w.heap.size w w1:=by rw[<-hw1];exact((Below.refl _ w).alloc (Nat.le_refl _) _).alloc (by simp) _
 have hWy:Ak.Wy w.heap.size L left w1:=by
  rw[<-hw1];exact Ak.Wy.keep (heap_alloc_new w _) (Below.heap_alloc _ _ _ (by simp))
 have hcall:=Tryz.ago_any hS L d L T V left s w1 (hT.below (A1.mono hBs)) hB hBs (Nat.le_trans hBs A1.size) hWy (hS.keeps s w w1 hI (Tk.But.of_below A1)) (λk hk=>Nat.lt_of_lt_of_le (hE k hk) A1.size) hleft hL hsz hP;rw[hrow]at hcall;have HC:Hid _:=hcall;have HA:Hid (Below w.heap.size w w1):=A1;have H1:Hid ((w.alloc (.cells #[.func (.func 60) #[] #[],.int .i64 L,.int .i64 left] 80)).alloc (.cells #[x0,x1,x2,x3,x4,x5,x6,x7,x8,x9,x10,x11] 32)=w1):=hw1;clear hcall A1 hT hI hrow hw1 hWy hS hE
 go_enter Tryz.func41,Tryz.ntmps41
 go_wp2_with fail
 rw[H1.out];refine Calls.mono HC.out ?_;rintro e W1 ⟨hb,hend⟩
 have X:Hid (Tk.But E w W1):=⟨hb.os.trans HA.out.os,hb.tape.trans HA.out.tape,hb.output.trans HA.out.output,Nat.le_trans HA.out.size hb.size,λi hi he=>by
  rw[hb.block i (Nat.lt_of_lt_of_le hi HA.out.size) (by rintro(h|h);omega;exact he h)];exact HA.out.block i hi⟩
 rcases hend with⟨h1,h2,h3,rfl,_⟩|⟨h1,rfl⟩
 ·have Y:Hid (T.depth<=L/\T.size<=left/\Inv (T.go step s).2 W1):=⟨h1,h2,h3⟩
  clear hb h1 h2 h3;go_wp2;go_ret;exact⟨_,rfl,X.out,.inl ⟨Y.out.1,Y.out.2.1,Y.out.2.2,rfl⟩⟩
 have Y:Hid (¬(T.depth<=L/\T.size<=left)):=h1;clear hb h1;go_wp2;go_ret;exact⟨_,rfl,X.out,.inr ⟨Y.out,rfl⟩⟩
theorem Tryz.athrough_any {St:Type}{step:Ac->St->Bool×St}{P:Ac->Prop}{g:Nat}{lb:Array Value}{Inv:St->World->Prop}{E:Nat->Prop}{B e:Nat}(d:Nat)(s:St)(T:Ac)(V:Ac.Vs)(w:World)(hS:∀bw,w.heap.size<=bw->Ak.Stepped step P g lb Inv E B e bw)(hT:Ac.Lies w B e d V T)(hB:0<B)(hBs:B<=w.heap.size)(hI:Inv s w)(hE:∀k,E k->k<w.heap.size)(hsz:T.size<=2147483647)(hP:T.All P):
  Calls Tryz.prog 25 #[.agg (Ac.row T V),.func (.func g) #[] lb] w λe w'=>∃b,e=.returned (.bool b)/\Ak.GoneThru step Inv E T 1000 2147483647 s w b w':=by
 obtain⟨x0,x1,x2,x3,x4,x5,x6,x7,x8,x9,x10,x11,hrow⟩:∃x0 x1 x2 x3 x4 x5 x6 x7 x8 x9 x10 x11,Ac.row T V=#[x0,x1,x2,x3,x4,x5,x6,x7,x8,x9,x10,x11]:=⟨_,_,_,_,_,_,_,_,_,_,_,_,rfl⟩;rw[hrow];obtain⟨w1,hw1⟩:=pE (w.alloc (.cells #[x0,x1,x2,x3,x4,x5,x6,x7,x8,x9,x10,x11] 32));have hs1:w1.heap.size=w.heap.size+1:=by rw[<-hw1];simp
 have A1:=pB hw1
 have C0:w1.heap[w.heap.size]? =some (.cells #[x0,x1,x2,x3,x4,x5,x6,x7,x8,x9,x10,x11] 32 (0,0)):=by rw[<-hw1];exact heap_alloc_new w _
 have CF:Hid (∀W,Tk.But E w1 W->W.cell? ⟨w.heap.size,0,none⟩=some x0/\W.cell? ⟨w.heap.size,1,none⟩=some x1/\W.cell? ⟨w.heap.size,2,none⟩=some x2/\W.cell? ⟨w.heap.size,3,none⟩=some x3/\W.cell? ⟨w.heap.size,4,none⟩=some x4/\W.cell? ⟨w.heap.size,5,none⟩=some x5/\W.cell? ⟨w.heap.size,6,none⟩=some x6/\W.cell? ⟨w.heap.size,7,none⟩=some x7/\W.cell? ⟨w.heap.size,8,none⟩=some x8/\W.cell? ⟨w.heap.size,9,none⟩=some x9/\W.cell? ⟨w.heap.size,10,none⟩=some x10/\W.cell? ⟨w.heap.size,11,none⟩=some x11):=λW hb=>by
  have e1:=(hb.block w.heap.size (by omega) (λe=>by have:=hE _ e;omega)).trans C0;simp[World.cell?,e1]
 have CW:Hid (∀W,Below w1.heap.size w1 W->Calls Tryz.prog 39 #[.int .i64 1000,.int .i64 2147483647] W λe w'=>e=.returned (.agg #[.func (.func 60) #[] #[],.int .i64 1000,.int .i64 2147483647])/\Hid (Below w1.heap.size w1 w')):=λW hb=>
  (Tryz.away_any 1000 2147483647 W).mono λ_ w' h=>⟨h.1,hb.trans (h.2.mono hb.size)⟩
 have CT:Hid (∀W,Below w1.heap.size w1 W->Calls Tryz.prog 41 #[.agg #[.func (.func 60) #[] #[],.int .i64 1000,.int .i64 2147483647],.agg #[x0,x1,x2,x3,x4,x5,x6,x7,x8,x9,x10,x11],.func (.func g) #[] lb] W λe w'=>
   ∃b,e=.returned (.bool b)/\Hid (Tk.But E w1 w'/\Ak.GoneThru step Inv E T 1000 2147483647 s w b w')):=λW hb=>by
  have hS':=hS W.heap.size (by have:=hb.size;omega);have hbw:Below w.heap.size w W:=A1.trans (hb.mono (by omega));have h:=Tryz.anestThru_any d 1000 2147483647 s T V W hS' (hT.below (hbw.mono hBs)) hB (by have:=hbw.size;omega) (hS'.keeps s w W hI (Tk.But.of_below hbw)) (λk hk=>by have:=hE k hk;have:=hbw.size;omega) (by omega) (by omega) hsz hP;rw[hrow]at h;refine h.mono ?_;rintro e w' ⟨b,rfl,hbt,hend⟩;exact⟨b,rfl,(Tk.But.of_below hb).trans hbt,(Tk.But.of_below hbw).trans hbt,hend⟩
 have H1:Hid (w.alloc (.cells #[x0,x1,x2,x3,x4,x5,x6,x7,x8,x9,x10,x11] 32)=w1):=hw1;have BR:Hid (Below w1.heap.size w1 w1):=Below.refl _ _;clear A1 hT hI hrow hw1 hS hE C0 hs1
 go_enter Tryz.func25,Tryz.ntmps25
 go_upto_region 1 with fail
 rw[H1.out]
 go_region_held3 (λW=>W.cell? ⟨w.heap.size,0,none⟩=some x0/\W.cell? ⟨w.heap.size,1,none⟩=some x1/\W.cell? ⟨w.heap.size,2,none⟩=some x2/\W.cell? ⟨w.heap.size,3,none⟩=some x3/\W.cell? ⟨w.heap.size,4,none⟩=some x4/\W.cell? ⟨w.heap.size,5,none⟩=some x5/\W.cell? ⟨w.heap.size,6,none⟩=some x6/\W.cell? ⟨w.heap.size,7,none⟩=some x7/\W.cell? ⟨w.heap.size,8,none⟩=some x8/\W.cell? ⟨w.heap.size,9,none⟩=some x9/\W.cell? ⟨w.heap.size,10,none⟩=some x10/\W.cell? ⟨w.heap.size,11,none⟩=some x11)
  (first|exact CF.out _ H4.out.1|exact CF.out _ (Tk.But.of_below B3.out)|exact CF.out _ (Tk.But.of_below BR.out.drew)|exact CF.out _ (Tk.But.of_below BR.out))
  (first
  |(go_simp;go_at_call 39;refine Calls.mono (CW.out _ ?_) ?_;(first|exact BR.out|exact BR.out.drew|exact Tk.below_drewN BR.out _);rintro e W3 ⟨rfl,B3⟩)
  |(go_simp;go_at_call 41;refine Calls.mono (CT.out _ ?_) ?_;(first|exact B3.out|exact B3.out.drew|exact Tk.below_drewN B3.out _);rintro e W4 ⟨b,rfl,H4⟩))
 all_goals
  clear CW CT BR CF;go_simp;go_wp2;go_ret;exact⟨_,rfl,H4.out.2⟩
theorem Tryz.aallTrue_any (x0 x1 x2 x3 x4 x5 x6 x7 x8 x9 x10 x11:Value)(w:World):
  Calls Tryz.prog 42 #[.agg #[x0,x1,x2,x3,x4,x5,x6,x7,x8,x9,x10,x11]] w λe w'=>e=.returned (.bool true)/\Below w.heap.size w w':=by
 have B0:Hid (Below w.heap.size w (w.alloc (.cells #[x0,x1,x2,x3,x4,x5,x6,x7,x8,x9,x10,x11] 32))):=(Below.refl _ w).alloc (Nat.le_refl _) _;have BR:Hid (Below w.heap.size w w):=Below.refl _ _
 go_enter Tryz.func42,Tryz.ntmps42
 go_wp2;go_ret;exact⟨rfl,by first|exact B0.out|exact BR.out⟩
theorem Ak.stepped_true (B e bw:Nat):Ak.Stepped (λ_ (s:Unit)=>(true,s)) (λ_=>True) 42 #[] (λ_ _=>True) (λ_=>False) B e bw where
 enters:=enters_of Tryz.func42 (by kernel_rfl) rfl
 calls:=λs W d T V _ _ _ _=>by
  obtain⟨x0,x1,x2,x3,x4,x5,x6,x7,x8,x9,x10,x11,hrow⟩:∃x0 x1 x2 x3 x4 x5 x6 x7 x8 x9 x10 x11,Ac.row T V=#[x0,x1,x2,x3,x4,x5,x6,x7,x8,x9,x10,x11]:=⟨_,_,_,_,_,_,_,_,_,_,_,_,rfl⟩;rw[hrow];exact(Tryz.aallTrue_any x0 x1 x2 x3 x4 x5 x6 x7 x8 x9 x10 x11 W).mono λ_ _ q=>⟨q.1,trivial,Tk.But.of_below q.2⟩
 keeps:=λ_ _ _ _ _=>trivial
 above:=λk hk=>hk.elim
 not_bw:=λh=>h
mutual
theorem Ac.go_true:∀(T:Ac) (s:Unit),T.go (λ_ (s:Unit)=>(true,s)) s=(true,s)
 | .mk _ _ _ _ _ _ ks _ _ _,s=>by rw[Ac.go,if_pos rfl];exact Ac.goes_true ks s
theorem Ac.goes_true:∀(l:List Ac) (s:Unit),Ac.goes (λ_ (s:Unit)=>(true,s)) l s=(true,s)
 | [],s=>by rw[Ac.goes]
 |k::r,s=>by rw[Ac.goes,Ac.go_true k s,if_pos rfl];exact Ac.goes_true r s
end
mutual
theorem Ac.all_true:∀T:Ac,T.All (λ_=>True)
 | .mk _ _ _ _ _ _ ks _ _ _=>⟨trivial,Ac.alls_true ks⟩
theorem Ac.alls_true:∀l:List Ac,Ac.Alls (λ_=>True) l
 | []=>trivial
 |k::r=>⟨Ac.all_true k,Ac.alls_true r⟩
end
def Ac.tooB (T:Ac):Bool:= !decide (T.depth<=24/\T.size<=96)
theorem Tryz.atooLarge_any (d e:Nat)(T:Ac)(V:Ac.Vs)(w:World)(hT:Ac.Lies w w.heap.size e d V T)(h0:0<w.heap.size)(hsz:T.size<=2147483647):
  Calls Tryz.prog 24 #[.agg (Ac.row T V)] w λe w'=>e=.returned (.bool T.tooB)/\Below w.heap.size w w':=by
 obtain⟨x0,x1,x2,x3,x4,x5,x6,x7,x8,x9,x10,x11,hrow⟩:∃x0 x1 x2 x3 x4 x5 x6 x7 x8 x9 x10 x11,Ac.row T V=#[x0,x1,x2,x3,x4,x5,x6,x7,x8,x9,x10,x11]:=⟨_,_,_,_,_,_,_,_,_,_,_,_,rfl⟩;rw[hrow];obtain⟨w1,hw1⟩:=pE (w.alloc (.cells #[x0,x1,x2,x3,x4,x5,x6,x7,x8,x9,x10,x11] 32));have hs1:w1.heap.size=w.heap.size+1:=by rw[<-hw1];simp
 have A1:=pB hw1
 have C0:w1.heap[w.heap.size]? =some (.cells #[x0,x1,x2,x3,x4,x5,x6,x7,x8,x9,x10,x11] 32 (0,0)):=by rw[<-hw1];exact heap_alloc_new w _
 have CF:Hid (∀W,Below w1.heap.size w1 W->W.cell? ⟨w.heap.size,0,none⟩=some x0/\W.cell? ⟨w.heap.size,1,none⟩=some x1/\W.cell? ⟨w.heap.size,2,none⟩=some x2/\W.cell? ⟨w.heap.size,3,none⟩=some x3/\W.cell? ⟨w.heap.size,4,none⟩=some x4/\W.cell? ⟨w.heap.size,5,none⟩=some x5/\W.cell? ⟨w.heap.size,6,none⟩=some x6/\W.cell? ⟨w.heap.size,7,none⟩=some x7/\W.cell? ⟨w.heap.size,8,none⟩=some x8/\W.cell? ⟨w.heap.size,9,none⟩=some x9/\W.cell? ⟨w.heap.size,10,none⟩=some x10/\W.cell? ⟨w.heap.size,11,none⟩=some x11):=λW hb=>by
  have e1:=(hb.block w.heap.size (by omega)).trans C0;simp[World.cell?,e1]
 have CW:Hid (∀W,Below w1.heap.size w1 W->Calls Tryz.prog 39 #[.int .i64 24,.int .i64 96] W λe w'=>e=.returned (.agg #[.func (.func 60) #[] #[],.int .i64 24,.int .i64 96])/\Hid (Below w1.heap.size w1 w')):=λW hb=>
  (Tryz.away_any 24 96 W).mono λ_ w' h=>⟨h.1,hb.trans (h.2.mono hb.size)⟩
 obtain⟨b,hb0⟩:=pE (decide (T.depth<=24/\T.size<=96))
 have CT:Hid (∀W,Below w1.heap.size w1 W->Calls Tryz.prog 41 #[.agg #[.func (.func 60) #[] #[],.int .i64 24,.int .i64 96],.agg #[x0,x1,x2,x3,x4,x5,x6,x7,x8,x9,x10,x11],.func (.func 42) #[] #[]] W λe w'=>
   e=.returned (.bool b)/\Hid (Below w1.heap.size w1 w')):=λW hb=>by
  have hbw:Below w.heap.size w W:=A1.trans (hb.mono (by omega));have h:=Tryz.anestThru_any d 24 96 () T V W (Ak.stepped_true w.heap.size e W.heap.size) (hT.below hbw) h0 hbw.size trivial (λk hk=>hk.elim) (by omega) (by omega) hsz (Ac.all_true T);rw[hrow]at h;refine h.mono ?_;rintro e w' ⟨bb,rfl,hbt,hend⟩;have h2:Below w1.heap.size w1 w':=hb.trans (hbt.below hb.size (λk _ h=>h))
  rcases hend with⟨x1,x2,_,x4⟩|⟨x1,x4⟩
  ·exact⟨by rw[x4,Ac.go_true,<-hb0,decide_eq_true ⟨x1,x2⟩],h2⟩
  exact⟨by rw[x4,<-hb0,decide_eq_false x1],h2⟩
 have H1:Hid (w.alloc (.cells #[x0,x1,x2,x3,x4,x5,x6,x7,x8,x9,x10,x11] 32)=w1):=hw1;have HA:Hid (Below w.heap.size w w1/\w.heap.size<=w1.heap.size):=⟨A1,by omega⟩;have HD:Hid (T.tooB= !b):=by show _=_;rw[<-hb0];rfl
 have BR:Hid (Below w1.heap.size w1 w1):=Below.refl _ _;clear A1 hT hrow hw1 C0 hs1 hb0
 go_enter Tryz.func24,Tryz.ntmps24
 go_upto_region 1 with fail
 rw[H1.out]
 go_region_held3 (λW=>W.cell? ⟨w.heap.size,0,none⟩=some x0/\W.cell? ⟨w.heap.size,1,none⟩=some x1/\W.cell? ⟨w.heap.size,2,none⟩=some x2/\W.cell? ⟨w.heap.size,3,none⟩=some x3/\W.cell? ⟨w.heap.size,4,none⟩=some x4/\W.cell? ⟨w.heap.size,5,none⟩=some x5/\W.cell? ⟨w.heap.size,6,none⟩=some x6/\W.cell? ⟨w.heap.size,7,none⟩=some x7/\W.cell? ⟨w.heap.size,8,none⟩=some x8/\W.cell? ⟨w.heap.size,9,none⟩=some x9/\W.cell? ⟨w.heap.size,10,none⟩=some x10/\W.cell? ⟨w.heap.size,11,none⟩=some x11)
  (first|exact CF.out _ B4.out|exact CF.out _ B3.out|exact CF.out _ BR.out.drew|exact CF.out _ BR.out)
  (first
  |(go_simp;go_at_call 39;refine Calls.mono (CW.out _ ?_) ?_;(first|exact BR.out|exact BR.out.drew|exact Tk.below_drewN BR.out _);rintro e W3 ⟨rfl,B3⟩)
  |(go_simp;go_at_call 41;refine Calls.mono (CT.out _ ?_) ?_;(first|exact B3.out|exact B3.out.drew|exact Tk.below_drewN B3.out _);rintro e W4 ⟨rfl,B4⟩))
 all_goals
  clear CW CT BR CF;go_simp;go_wp2;go_ret;exact⟨Tk.ret_bool HD.out.symm,HA.out.1.trans (B4.out.mono HA.out.2)⟩
def Ac.hasNodeB (k:Int):Bool:=k==2||k==3||k==4||k==5||k==8||k==9||k==10||k==11||k==12
theorem Tryz.hasNode_any (k:Int)(w:World):Calls Tryz.prog 45 #[.int .i64 k] w λe w'=>e=.returned (.bool (Ac.hasNodeB k))/\w'=w:=by
 by_cases h:k=2∨k=3∨k=4∨k=5∨k=8∨k=9∨k=10∨k=11∨k=12
 ·rcases h with rfl|rfl|rfl|rfl|rfl|rfl|rfl|rfl|rfl
  all_goals
   go_enter Tryz.func45,Tryz.ntmps45
   go_wp2;go_ret;exact⟨rfl,rfl⟩
 have e:Ac.hasNodeB k=false:=by unfold Ac.hasNodeB;simp;omega
 rw[e];have e2:(k==2)=false:=by simp;omega
 have e3:(k==3)=false:=by simp;omega
 have e4:(k==4)=false:=by simp;omega
 have e5:(k==5)=false:=by simp;omega
 have e8:(k==8)=false:=by simp;omega
 have e9:(k==9)=false:=by simp;omega
 have e10:(k==10)=false:=by simp;omega
 have e11:(k==11)=false:=by simp;omega
 have e12:(k==12)=false:=by simp;omega
 clear h e
 go_enter Tryz.func45,Tryz.ntmps45
 go_wp2;go_ret;exact⟨rfl,rfl⟩
def Ac.kidBad (K k:Int):Bool:=if k=13∨k=14 then true else if k=12 then K !=13 else((k==10) !=(K==9))
def Ac.holdsB (T:Ac):Bool:= !(T.ks.any λk=>Ac.kidBad T.kind k.kind)
theorem Tryz.holds1_any (k K:Int)(x1 x2 x3 x4 x5 x6 x7 x8 x9 x10 x11:Value)(bx:Nat)(w:World)(h:w.cell? ⟨bx,0,none⟩=some (.int .i64 K)):Calls Tryz.prog 70 #[.agg #[.int .i64 k,x1,x2,x3,x4,x5,x6,x7,x8,x9,x10,x11],.pointer (some ⟨bx,0,none⟩)] w λe w'=>e=.returned (.bool (Ac.kidBad K k))/\Below w.heap.size w w':=by
 have B0:Hid (Below w.heap.size w (w.alloc (.cells #[.int .i64 k,x1,x2,x3,x4,x5,x6,x7,x8,x9,x10,x11] 32))):=(Below.refl _ w).alloc (Nat.le_refl _) _
 have hl:bx<w.heap.size:=by
  rcases Nat.lt_or_ge bx w.heap.size with h1|h1
  ·exact h1
  unfold World.cell? at h;simp[h1]at h
 have h':(w.alloc (.cells #[.int .i64 k,x1,x2,x3,x4,x5,x6,x7,x8,x9,x10,x11] 32)).cell? ⟨bx,0,none⟩=some (.int .i64 K):=(B0.out.cell (p:=⟨bx,0,none⟩) hl).trans h
 by_cases c13:k=13
 ·subst c13
  have e:Ac.kidBad K 13=true:=rfl;rw[e];clear e h
  go_enter Tryz.func70,Tryz.ntmps70
  go_wp2;go_ret;exact⟨rfl,B0.out⟩
 by_cases c14:k=14
 ·subst c14
  have e:Ac.kidBad K 14=true:=rfl;rw[e];clear e h c13
  go_enter Tryz.func70,Tryz.ntmps70
  go_wp2;go_ret;exact⟨rfl,B0.out⟩
 by_cases c12:k=12
 ·subst c12
  have e:Ac.kidBad K 12=(K !=13):=rfl;rw[e];clear e h c13 c14
  go_enter Tryz.func70,Tryz.ntmps70
  go_wp2;go_ret;exact⟨rfl,B0.out⟩
 have e:Ac.kidBad K k=((k==10) !=(K==9)):=by unfold Ac.kidBad;rw[if_neg (by omega),if_neg c12]
 rw[e];have d13:(k==13)=false:=by simpa using c13
 have d14:(k==14)=false:=by simpa using c14
 have d12:(k==12)=false:=by simpa using c12
 clear e h c13 c14 c12;obtain⟨p,hp⟩:=pE ((k==10));obtain⟨q,hq⟩:=pE ((K==9));rw[hp,hq]
 cases p<;>cases q
 all_goals
  go_enter Tryz.func70,Tryz.ntmps70
  go_wp2;go_ret;exact⟨rfl,B0.out⟩
structure Ak.Pred (p:Ac->Bool)(g:Nat)(lb:Array Value)(B e:Nat)(w0:World):Prop where
 enters:∀args w,(callFunc g args).run Tryz.prog w=.ok (.enter g args) w
 calls:∀(W:World) (d:Nat) (T:Ac) (V:Ac.Vs),Below w0.heap.size w0 W->Ac.Lies W B e d V T->Calls Tryz.prog g (#[.agg (Ac.row T V)]++lb) W λe w'=>e=.returned (.bool (p T))/\Below W.heap.size W w'
theorem Tryz.aindex_any {p:Ac->Bool}{g:Nat}{lb:Array Value}{B e:Nat}(d:Nat)(T:Ac)(V:Ac.Vs)(a:Option Addr)(cap:Nat)(w:World)(hP:Ak.Pred p g lb B e w)(hT:Ac.Lies w B e d V T)(hv:V.k=.slice a T.ks.length cap)(hB:B<=w.heap.size)(hn:T.ks.length<=2147483647):
  Calls Tryz.prog 93 #[.slice a T.ks.length cap,.func (.func g) #[] lb] w λe w'=>(∃r:Int,e=.returned (.int .i64 r)/\decide (0<=r)=T.ks.any p)/\Below w.heap.size w w':=by
 cases d with
 |zero=>exact hT.elim
 |succ d=>
 obtain⟨n,hln⟩:=pE (T.ks.length);have HT:Hid (Ac.Lies w B e (d+1) V T/\V.k=.slice a n cap/\T.ks.length=n/\B<=w.heap.size):=⟨hT,by rw[hv,hln],hln,hB⟩;have HP:Hid (Ak.Pred p g lb B e w):=hP;have eg:=hP.enters;rw[hln]at hn⊢;clear hT hv hln hP hB
 go_enter Tryz.func93,Tryz.ntmps93
 go_wp2
 go_loopg [8] n (λgk i wr=>∃j:Nat,gk+j=n/\i=.int .i64 j/\Hid ((T.ks.take j).any p=false/\Below w.heap.size w wr))
 case atStart=>exact⟨0,by omega,rfl,by simp,Below.refl _ w⟩
 case round=>
  obtain⟨j,hj,rfl,HJ⟩:=hrel
  by_cases hjn:j<n
  rotate_left
  ·have hd:decide ((j:Int)<n)=false:=decide_eq_false (by omega)
   go_wp2;go_ret;refine⟨⟨_,rfl, ?_⟩,HJ.out.2⟩;have hall:T.ks.take j=T.ks:=List.take_of_length_le (by rw[HT.out.2.2.1];omega);have h1:=HJ.out.1;rw[hall]at h1;rw[h1];rfl
  have hd:decide ((j:Int)<n)=true:=decide_eq_true (by omega);have hjk:j<T.ks.length:=by rw[HT.out.2.2.1];exact hjn
  obtain⟨g',off,U,rfl,hg,hrw,hlu⟩:=HT.out.1.kid HT.out.2.1 j hjk;obtain⟨x,hx⟩:=pE (T.ks[j]);rw[hx]at hrw hlu;obtain⟨y0,y1,y2,y3,y4,y5,y6,y7,y8,y9,y10,y11,hyr⟩:∃y0 y1 y2 y3 y4 y5 y6 y7 y8 y9 y10 y11,Ac.row x U=#[y0,y1,y2,y3,y4,y5,y6,y7,y8,y9,y10,y11]:=⟨_,_,_,_,_,_,_,_,_,_,_,_,rfl⟩;rw[hyr]at hrw;have hc:∀p,wr.cell? ⟨g',p,none⟩=w.cell? ⟨g',p,none⟩:=λp=>HJ.out.2.cell (p:=⟨g',p,none⟩) (by have:=HT.out.2.2.2;show g'<_;omega)
  have hcs:wr.cell? ⟨g',off+j*12,none⟩=some y0/\wr.cell? ⟨g',off+j*12+1,none⟩=some y1/\wr.cell? ⟨g',off+j*12+2,none⟩=some y2/\wr.cell? ⟨g',off+j*12+3,none⟩=some y3/\wr.cell? ⟨g',off+j*12+4,none⟩=some y4/\wr.cell? ⟨g',off+j*12+5,none⟩=some y5/\wr.cell? ⟨g',off+j*12+6,none⟩=some y6/\wr.cell? ⟨g',off+j*12+7,none⟩=some y7/\wr.cell? ⟨g',off+j*12+8,none⟩=some y8/\wr.cell? ⟨g',off+j*12+9,none⟩=some y9/\wr.cell? ⟨g',off+j*12+10,none⟩=some y10/\wr.cell? ⟨g',off+j*12+11,none⟩=some y11:=by
   exact⟨by rw[hc];exact hrw 0 (by simp),by rw[hc];exact hrw 1 (by simp),by rw[hc];exact hrw 2 (by simp),by rw[hc];exact hrw 3 (by simp),by rw[hc];exact hrw 4 (by simp),by rw[hc];exact hrw 5 (by simp),by rw[hc];exact hrw 6 (by simp),by rw[hc];exact hrw 7 (by simp),by rw[hc];exact hrw 8 (by simp),by rw[hc];exact hrw 9 (by simp),by rw[hc];exact hrw 10 (by simp),by rw[hc];exact hrw 11 (by simp)⟩
  obtain⟨hc0,hc1,hc2,hc3,hc4,hc5,hc6,hc7,hc8,hc9,hc10,hc11⟩:=hcs;have hcall:=HP.out.calls wr d x U HJ.out.2 (hlu.below (HJ.out.2.mono HT.out.2.2.2));rw[hyr]at hcall;obtain⟨q,hq⟩:=pE (p x);rw[hq]at hcall;have HC:Hid _:=hcall
  have HS:Hid ((T.ks.take (j+1)).any p=q/\p T.ks[j]=q):=by
   show _/\_;rw[Ac.take_snoc _ _ hjk,List.any_append,HJ.out.1,hx];simp[hq]
  have hj0:(0:Int)<=j:=by omega
  have hjn':(j:Int)<n:=by omega
  clear hcall hc hrw hlu hx hyr hq
  go_wp2_with fail
  refine Calls.mono HC.out ?_;rintro e W2 ⟨rfl,hb2⟩;have B2:Hid (Below w.heap.size w W2):=HJ.out.2.trans (hb2.mono HJ.out.2.size);clear hb2 HC
  cases q with
  |true=>
   go_wp2;go_ret;refine⟨⟨_,rfl, ?_⟩,B2.out⟩;rw[decide_eq_true hj0];exact(List.any_eq_true.2 ⟨T.ks[j],List.getElem_mem hjk,HS.out.2⟩).symm
  |false=>
   go_wp2;go_roundg (gk-1)
   case measure=>omega
   case rel=>exact⟨j+1,by omega,by go_num,HS.out.1,B2.out⟩
theorem Tryz.acontains_any {p:Ac->Bool}{g:Nat}{lb:Array Value}{B e:Nat}(d:Nat)(T:Ac)(V:Ac.Vs)(a:Option Addr)(cap:Nat)(w:World)(hP:Ak.Pred p g lb B e w)(hT:Ac.Lies w B e d V T)(hv:V.k=.slice a T.ks.length cap)(hB:B<=w.heap.size)(hn:T.ks.length<=2147483647):
  Calls Tryz.prog 69 #[.slice a T.ks.length cap,.func (.func g) #[] lb] w λe w'=>e=.returned (.bool (T.ks.any p))/\Below w.heap.size w w':=by
 have C:Hid _:=Tryz.aindex_any d T V a cap w hP hT hv hB hn;obtain⟨n,hln⟩:=pE (T.ks.length);obtain⟨b,hb⟩:=pE (T.ks.any p);rw[hln,hb]at C;rw[hln,hb];clear hP hT hv hln hb hn hB
 go_enter Tryz.func69,Tryz.ntmps69
 go_wp2_with fail
 refine Calls.mono C.out ?_;rintro e W1 ⟨⟨r,rfl,hr⟩,hb1⟩;have HB1:Hid (Below w.heap.size w W1):=hb1;clear hb1;go_wp2;go_ret;exact⟨by first|rfl|(rw[hr])|simp[hr],HB1.out⟩
theorem Tryz.holds_any (d e:Nat)(T:Ac)(V:Ac.Vs)(w:World)(hT:Ac.Lies w w.heap.size e d V T)(hn:T.ks.length<=2147483647):
  Calls Tryz.prog 43 #[.agg (Ac.row T V)] w λe w'=>e=.returned (.bool T.holdsB)/\Below w.heap.size w w':=by
 obtain⟨a,cap,hvk⟩:=hT.kids;obtain⟨n,hln⟩:=pE (T.ks.length);obtain⟨K,hK⟩:=pE (T.kind);obtain⟨x1,x2,x3,x4,x5,x6,x7,x9,x10,x11,hrow⟩:∃x1 x2 x3 x4 x5 x6 x7 x9 x10 x11,Ac.row T V=#[.int .i64 K,x1,x2,x3,x4,x5,x6,x7,.slice a n cap,x9,x10,x11]:=⟨_,_,_,_,_,_,_,_,_,_,by unfold Ac.row;rw[hvk,hK,hln]⟩;rw[hrow];obtain⟨w1,hw1⟩:=pE (w.alloc (.cells #[.int .i64 K,x1,x2,x3,x4,x5,x6,x7,.slice a n cap,x9,x10,x11] 32));have A1:=pB hw1
 have C0:w1.heap[w.heap.size]? =some (.cells #[.int .i64 K,x1,x2,x3,x4,x5,x6,x7,.slice a n cap,x9,x10,x11] 32 (0,0)):=by rw[<-hw1];exact heap_alloc_new w _
 have c8:w1.cell? ⟨w.heap.size,8,none⟩=some (.slice a n cap):=by simp[World.cell?,C0]
 have hlt:w.heap.size<w1.heap.size:=(Array.getElem?_eq_some_iff.1 C0).1
 have PR:Ak.Pred (λk=>Ac.kidBad K k.kind) 70 #[.pointer (some ⟨w.heap.size,0,none⟩)] w.heap.size e w1:=⟨enters_of Tryz.func70 (by kernel_rfl) rfl,λW d' T' V' hb hT'=>by
  have hc:W.cell? ⟨w.heap.size,0,none⟩=some (.int .i64 K):=by
   rw[hb.cell (p:=⟨w.heap.size,0,none⟩) hlt];simp[World.cell?,C0]
  exact Tryz.holds1_any T'.kind K _ _ _ _ _ _ _ _ _ _ _ w.heap.size W hc⟩
 have C:Hid _:=Tryz.acontains_any d T V a cap w1 PR (hT.below A1) hvk (Nat.le_of_lt hlt) hn;rw[hln]at C;obtain⟨b,hb⟩:=pE ((T.ks.any λk=>Ac.kidBad K k.kind));rw[hb]at C;have HB:Hid (T.holdsB= !b/\Below w.heap.size w w1):=⟨by unfold Ac.holdsB;rw[hK,hb],A1⟩;have H1:Hid (w.alloc (.cells #[.int .i64 K,x1,x2,x3,x4,x5,x6,x7,.slice a n cap,x9,x10,x11] 32)=w1):=hw1;clear hT hn hvk hln hK hrow hw1 A1 C0 hlt PR hb
 go_enter Tryz.func43,Tryz.ntmps43
 go_upto_region 1 with fail
 rw[H1.out]
 go_wp2_with fail
 refine Calls.mono C.out ?_;rintro e W2 ⟨rfl,hb2⟩;have B2:Hid (Below w1.heap.size w1 W2):=hb2;clear hb2;go_wp2;go_ret;exact⟨Tk.ret_bool HB.out.1.symm,HB.out.2.trans (B2.out.mono HB.out.2.size)⟩
end Go.Proofs
