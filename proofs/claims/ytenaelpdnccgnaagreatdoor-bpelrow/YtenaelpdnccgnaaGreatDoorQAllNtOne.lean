import Derived.Test.YtenaelpdnccgnaaGreatDoorQAcModel
import Derived.Test.YtenaelpdnccgnaaGreatDoorQAllTRefChk
set_option maxRecDepth 100000
set_option maxHeartbeats 32000000
namespace Go.Proofs
open Go.RowKit Go.Shelf
theorem Tryz.nodeRight_plain (k a op num m:Int)(sa:Option Addr)(n cap:Nat)(zb:Bool)(w:World)(hk:(k=1/\m=0)∨(k=2/\m=0)∨(k=5/\m=0)∨(k=6/\m=0)∨(k=7/\m=0)∨(k=3/\m=3)∨(k=8/\m=4))
  (hZ:∀W,Calls Tryz.prog 151 #[.agg #[.int .i64 op,.int .i64 num,.slice sa n cap]] W λe w'=>e=.returned (.bool zb)/\Below W.heap.size W w'):
  Calls Tryz.prog 127 #[.agg #[.int .i64 k,.int .i64 a,.int .i64 op,.int .i64 num,.slice sa n cap]] w λe w'=>e=.returned (.bool (decide (0<=a)&&decide (a<=m)&&zb))/\Below w.heap.size w w':=by
 have B0:Hid (Below w.heap.size w (w.alloc (.cells #[.int .i64 k,.int .i64 a,.int .i64 op,.int .i64 num,.slice sa n cap] 62))):=(Below.refl _ w).alloc (Nat.le_refl _) _;have HZ:Hid _:=hZ;clear hZ
 rcases hk with⟨rfl,rfl⟩|⟨rfl,rfl⟩|⟨rfl,rfl⟩|⟨rfl,rfl⟩|⟨rfl,rfl⟩|⟨rfl,rfl⟩|⟨rfl,rfl⟩
 all_goals
  rcases Int.lt_or_le a 0 with h0|h0
  ·have e0:decide (0<=a)=false:=decide_eq_false (by omega)
   rw[e0];clear h0
   go_enter Tryz.func127,Tryz.ntmps127
   go_wp2;go_ret;exact⟨Tk.ret_bool rfl,B0.out⟩
  have e0:decide (0<=a)=true:=decide_eq_true h0;rw[e0]
  first
  |(by_cases h1:a<=0;rotate_left;exact(by
     have e1:decide (a<=0)=false:=decide_eq_false h1;rw[e1];clear h0 h1
     go_enter Tryz.func127,Tryz.ntmps127
     go_wp2;go_ret
     exact⟨Tk.ret_bool rfl,B0.out⟩)
    have e1:decide (a<=0)=true:=decide_eq_true h1
    rw[e1])
  |(by_cases h1:a<=3;rotate_left;exact(by
     have e1:decide (a<=3)=false:=decide_eq_false h1;rw[e1];clear h0 h1
     go_enter Tryz.func127,Tryz.ntmps127
     go_wp2;go_ret
     exact⟨Tk.ret_bool rfl,B0.out⟩)
    have e1:decide (a<=3)=true:=decide_eq_true h1
    rw[e1])
  |(by_cases h1:a<=4;rotate_left;exact(by
     have e1:decide (a<=4)=false:=decide_eq_false h1;rw[e1];clear h0 h1
     go_enter Tryz.func127,Tryz.ntmps127
     go_wp2;go_ret
     exact⟨Tk.ret_bool rfl,B0.out⟩)
    have e1:decide (a<=4)=true:=decide_eq_true h1
    rw[e1])
  clear h0 h1
  go_enter Tryz.func127,Tryz.ntmps127
  go_wp2_with fail
  refine Calls.mono (HZ.out _) ?_;rintro e W ⟨rfl,hb⟩;have B2:Hid (Below w.heap.size w W):=B0.out.trans (hb.mono B0.out.size);clear hb HZ;go_wp2;go_ret;exact⟨Tk.ret_bool rfl,B2.out⟩
theorem Tryz.nodeRight_other (k a op num:Int)(sa:Option Addr)(n cap:Nat)(w:World)(hk:k<1∨8<k):
  Calls Tryz.prog 127 #[.agg #[.int .i64 k,.int .i64 a,.int .i64 op,.int .i64 num,.slice sa n cap]] w λe w'=>e=.returned (.bool false)/\Below w.heap.size w w':=by
 have B0:Hid (Below w.heap.size w (w.alloc (.cells #[.int .i64 k,.int .i64 a,.int .i64 op,.int .i64 num,.slice sa n cap] 62))):=(Below.refl _ w).alloc (Nat.le_refl _) _;have e1:(k==1)=false:=by simp;omega
 have e2:(k==2)=false:=by simp;omega
 have e3:(k==3)=false:=by simp;omega
 have e4:(k==4)=false:=by simp;omega
 have e5:(k==5)=false:=by simp;omega
 have e6:(k==6)=false:=by simp;omega
 have e7:(k==7)=false:=by simp;omega
 have e8:(k==8)=false:=by simp;omega
 clear hk
 go_enter Tryz.func127,Tryz.ntmps127
 go_wp2;go_ret;exact⟨rfl,B0.out⟩
theorem Tryz.nodeRight_assign (a op num:Int)(sa:Option Addr)(n cap:Nat)(ob:Bool)(w:World)
  (hO:∀W,Below w.heap.size w W->Calls Tryz.prog 150 #[.int .i64 1,.agg #[.int .i64 op,.int .i64 num,.slice sa n cap]] W λe w'=>e=.returned (.bool ob)/\Below W.heap.size W w'):
  Calls Tryz.prog 127 #[.agg #[.int .i64 4,.int .i64 a,.int .i64 op,.int .i64 num,.slice sa n cap]] w λe w'=>e=.returned (.bool (decide (0<=a)&&decide (a<=3)&&ob))/\Below w.heap.size w w':=by
 obtain⟨w1,hw1⟩:=pE (w.alloc (.cells #[.int .i64 4,.int .i64 a,.int .i64 op,.int .i64 num,.slice sa n cap] 62));have A1:=pB hw1
 have hs1:w1.heap.size=w.heap.size+1:=by rw[<-hw1];simp
 have C0:w1.heap[w.heap.size]? =some (.cells #[.int .i64 4,.int .i64 a,.int .i64 op,.int .i64 num,.slice sa n cap] 62 (0,0)):=by rw[<-hw1];exact heap_alloc_new w _
 have HO:Hid _:=hO w1 A1;have HZ:Hid (∀W,Calls Tryz.prog 151 #[.agg #[.int .i64 0,.int .i64 0,.slice none 0 0]] W λe w'=>e=.returned (.bool true)/\Below W.heap.size W w'):=λW=>Tryz.isZero_any (.mk 0 0 []) none 0 W;have H1:Hid (w.alloc (.cells #[.int .i64 4,.int .i64 a,.int .i64 op,.int .i64 num,.slice sa n cap] 62)=w1):=hw1;have HA:Hid (Below w.heap.size w w1/\w1.heap.size=w.heap.size+1/\w1.heap[w.heap.size]? =some (.cells #[.int .i64 4,.int .i64 a,.int .i64 op,.int .i64 num,.slice sa n cap] 62 (0,0))):=⟨A1,hs1,C0⟩;clear hO hw1 A1 hs1 C0
 cases ob with
 |false=>
  rw[Bool.and_false]
  go_enter Tryz.func127,Tryz.ntmps127
  go_wp2_with fail
  rw[H1.out];refine Calls.mono HO.out ?_;rintro e W ⟨rfl,hb⟩;have B2:Hid (Below w.heap.size w W):=HA.out.1.trans (hb.mono HA.out.1.size);clear hb HO;go_wp2;go_ret;exact⟨rfl,B2.out⟩
 |true=>
  rw[Bool.and_true]
  rcases Int.lt_or_le a 0 with h0|h0
  ·have e0:decide (0<=a)=false:=decide_eq_false (by omega)
   rw[e0];clear h0
   go_enter Tryz.func127,Tryz.ntmps127
   go_wp2_with fail
   rw[H1.out];refine Calls.mono HO.out ?_;rintro e W ⟨rfl,hb⟩
   have hby:W.heap[w.heap.size]? =some (.cells #[.int .i64 4,.int .i64 a,.int .i64 op,.int .i64 num,.slice sa n cap] 62 (0,0)):=by
    rw[hb.block _ (by have:=HA.out.2.1;omega)];exact HA.out.2.2
   have hc1:W.cell? ⟨w.heap.size,1,none⟩=some (.int .i64 a):=by simp[World.cell?,hby]
   have hc2:W.cell? ⟨w.heap.size,2,none⟩=some (.int .i64 op):=by simp[World.cell?,hby]
   have hc3:W.cell? ⟨w.heap.size,3,none⟩=some (.int .i64 num):=by simp[World.cell?,hby]
   have hc4:W.cell? ⟨w.heap.size,4,none⟩=some (.slice sa n cap):=by simp[World.cell?,hby]
   have hf2:W.frozen? ⟨w.heap.size,2,none⟩=false:=by simp[World.frozen?,hby]
   have hf3:W.frozen? ⟨w.heap.size,3,none⟩=false:=by simp[World.frozen?,hby]
   have hf4:W.frozen? ⟨w.heap.size,4,none⟩=false:=by simp[World.frozen?,hby]
   obtain⟨W2,hW2⟩:=pE (((W.setCell ⟨w.heap.size,2,none⟩ (.int .i64 0)).setCell ⟨w.heap.size,3,none⟩ (.int .i64 0)).setCell ⟨w.heap.size,4,none⟩ (.slice none 0 0))
   have B2:Hid (Below w.heap.size w W2):=by
    show Below _ _ _;rw[<-hW2];exact(((HA.out.1.trans (hb.mono HA.out.1.size)).setCell (p:=⟨w.heap.size,2,none⟩) (Nat.le_refl _) _).setCell (p:=⟨w.heap.size,3,none⟩) (Nat.le_refl _) _).setCell (p:=⟨w.heap.size,4,none⟩) (Nat.le_refl _) _
   have HW2:Hid (((W.setCell ⟨w.heap.size,2,none⟩ (.int .i64 0)).setCell ⟨w.heap.size,3,none⟩ (.int .i64 0)).setCell ⟨w.heap.size,4,none⟩ (.slice none 0 0)=W2):=hW2;clear hb HO hby hW2;go_wp2;go_ret;rw[HW2.out];exact⟨rfl,B2.out⟩
  have e0:decide (0<=a)=true:=decide_eq_true h0;rw[e0]
  by_cases h3:a<=3
  rotate_left
  ·have e3:decide (a<=3)=false:=decide_eq_false h3
   rw[e3];clear h0 h3
   go_enter Tryz.func127,Tryz.ntmps127
   go_wp2_with fail
   rw[H1.out];refine Calls.mono HO.out ?_;rintro e W ⟨rfl,hb⟩
   have hby:W.heap[w.heap.size]? =some (.cells #[.int .i64 4,.int .i64 a,.int .i64 op,.int .i64 num,.slice sa n cap] 62 (0,0)):=by
    rw[hb.block _ (by have:=HA.out.2.1;omega)];exact HA.out.2.2
   have hc1:W.cell? ⟨w.heap.size,1,none⟩=some (.int .i64 a):=by simp[World.cell?,hby]
   have hc2:W.cell? ⟨w.heap.size,2,none⟩=some (.int .i64 op):=by simp[World.cell?,hby]
   have hc3:W.cell? ⟨w.heap.size,3,none⟩=some (.int .i64 num):=by simp[World.cell?,hby]
   have hc4:W.cell? ⟨w.heap.size,4,none⟩=some (.slice sa n cap):=by simp[World.cell?,hby]
   have hf2:W.frozen? ⟨w.heap.size,2,none⟩=false:=by simp[World.frozen?,hby]
   have hf3:W.frozen? ⟨w.heap.size,3,none⟩=false:=by simp[World.frozen?,hby]
   have hf4:W.frozen? ⟨w.heap.size,4,none⟩=false:=by simp[World.frozen?,hby]
   obtain⟨W2,hW2⟩:=pE (((W.setCell ⟨w.heap.size,2,none⟩ (.int .i64 0)).setCell ⟨w.heap.size,3,none⟩ (.int .i64 0)).setCell ⟨w.heap.size,4,none⟩ (.slice none 0 0))
   have B2:Hid (Below w.heap.size w W2):=by
    show Below _ _ _;rw[<-hW2];exact(((HA.out.1.trans (hb.mono HA.out.1.size)).setCell (p:=⟨w.heap.size,2,none⟩) (Nat.le_refl _) _).setCell (p:=⟨w.heap.size,3,none⟩) (Nat.le_refl _) _).setCell (p:=⟨w.heap.size,4,none⟩) (Nat.le_refl _) _
   have HW2:Hid (((W.setCell ⟨w.heap.size,2,none⟩ (.int .i64 0)).setCell ⟨w.heap.size,3,none⟩ (.int .i64 0)).setCell ⟨w.heap.size,4,none⟩ (.slice none 0 0)=W2):=hW2;clear hb HO hby hW2;go_wp2;go_ret;rw[HW2.out];exact⟨rfl,B2.out⟩
  have e3:decide (a<=3)=true:=decide_eq_true h3;rw[e3];clear h0 h3
  go_enter Tryz.func127,Tryz.ntmps127
  go_wp2_with fail
  rw[H1.out];refine Calls.mono HO.out ?_;rintro e W ⟨rfl,hb⟩
  have hby:W.heap[w.heap.size]? =some (.cells #[.int .i64 4,.int .i64 a,.int .i64 op,.int .i64 num,.slice sa n cap] 62 (0,0)):=by
   rw[hb.block _ (by have:=HA.out.2.1;omega)];exact HA.out.2.2
  have hc1:W.cell? ⟨w.heap.size,1,none⟩=some (.int .i64 a):=by simp[World.cell?,hby]
  have hc2:W.cell? ⟨w.heap.size,2,none⟩=some (.int .i64 op):=by simp[World.cell?,hby]
  have hc3:W.cell? ⟨w.heap.size,3,none⟩=some (.int .i64 num):=by simp[World.cell?,hby]
  have hc4:W.cell? ⟨w.heap.size,4,none⟩=some (.slice sa n cap):=by simp[World.cell?,hby]
  have hf2:W.frozen? ⟨w.heap.size,2,none⟩=false:=by simp[World.frozen?,hby]
  have hf3:W.frozen? ⟨w.heap.size,3,none⟩=false:=by simp[World.frozen?,hby]
  have hf4:W.frozen? ⟨w.heap.size,4,none⟩=false:=by simp[World.frozen?,hby]
  obtain⟨W2,hW2⟩:=pE (((W.setCell ⟨w.heap.size,2,none⟩ (.int .i64 0)).setCell ⟨w.heap.size,3,none⟩ (.int .i64 0)).setCell ⟨w.heap.size,4,none⟩ (.slice none 0 0))
  have B2:Hid (Below w.heap.size w W2):=by
   show Below _ _ _;rw[<-hW2];exact(((HA.out.1.trans (hb.mono HA.out.1.size)).setCell (p:=⟨w.heap.size,2,none⟩) (Nat.le_refl _) _).setCell (p:=⟨w.heap.size,3,none⟩) (Nat.le_refl _) _).setCell (p:=⟨w.heap.size,4,none⟩) (Nat.le_refl _) _
  have HW2:Hid (((W.setCell ⟨w.heap.size,2,none⟩ (.int .i64 0)).setCell ⟨w.heap.size,3,none⟩ (.int .i64 0)).setCell ⟨w.heap.size,4,none⟩ (.slice none 0 0)=W2):=hW2;clear hb HO hby hW2
  go_wp2_with fail
  rw[HW2.out];refine Calls.mono (HZ.out _) ?_;rintro e W3 ⟨rfl,hb⟩;have B3:Hid (Below w.heap.size w W3):=B2.out.trans (hb.mono B2.out.size);clear hb HZ;go_wp2;go_ret;exact⟨rfl,B3.out⟩
theorem Nt.oneB_plain (x:Nd)(m:Int)(hk:(x.kind=1/\m=0)∨(x.kind=2/\m=0)∨(x.kind=5/\m=0)∨(x.kind=6/\m=0)∨(x.kind=7/\m=0)∨(x.kind=3/\m=3)∨(x.kind=8/\m=4)):Nt.oneB x=(decide (0<=x.a)&&decide (x.a<=m)&&Nt.zeroB x.t):=by
 unfold Nt.oneB Nt.mostN
 rcases hk with⟨h,rfl⟩|⟨h,rfl⟩|⟨h,rfl⟩|⟨h,rfl⟩|⟨h,rfl⟩|⟨h,rfl⟩|⟨h,rfl⟩<;>rw[h]<;>simp
theorem Nt.oneB_assign (x:Nd)(hk:x.kind=4):Nt.oneB x=(decide (0<=x.a)&&decide (x.a<=3)&&Nt.ofB x.t 1):=by
 unfold Nt.oneB Nt.mostN;rw[hk]
 simp
theorem Nt.oneB_other (x:Nd)(hk:x.kind<1∨8<x.kind):Nt.oneB x=false:=by
 unfold Nt.oneB;rw[decide_eq_false (by omega)];rfl
theorem Nt.kinds (k:Int):(∃m,(k=1/\m=0)∨(k=2/\m=0)∨(k=5/\m=0)∨(k=6/\m=0)∨(k=7/\m=0)∨(k=3/\m=3)∨(k=8/\m=(4:Int)))∨k=4∨(k<1∨8<k):=by
 by_cases h4:k=4
 ·exact .inr (.inl h4)
 by_cases h:k<1∨8<k
 ·exact .inr (.inr h)
 refine .inl ⟨if k=3 then 3 else if k=8 then 4 else 0, ?_⟩
 (repeat' split)<;>omega
theorem Tryz.nodeRight_any (d:Nat)(x:Nd)(v:Value)(w:World)(hT:Tm.Lies w w.heap.size d v x.t)(hO:Tk.Ops w)(hsz:x.t.size<=2147483647):
  Calls Tryz.prog 127 #[.agg #[.int .i64 x.kind,.int .i64 x.a,.int .i64 x.t.op,.int .i64 x.t.num,v]] w λe w'=>e=.returned (.bool (Nt.oneB x))/\Below w.heap.size w w':=by
 obtain⟨a,cap,rfl⟩:=hT.shape
 rcases Nt.kinds x.kind with⟨m,hk⟩|hk|hk
 ·rw[Nt.oneB_plain x m hk]
  exact Tryz.nodeRight_plain x.kind x.a x.t.op x.t.num m a x.t.ks.length cap (Nt.zeroB x.t) w hk (λW=>Tryz.isZero_any x.t a cap W)
 ·rw[Nt.oneB_assign x hk,hk]
  exact Tryz.nodeRight_assign x.a x.t.op x.t.num a x.t.ks.length cap (Nt.ofB x.t 1) w (λW hb=>Tryz.isOf_any 1 d x.t (.slice a x.t.ks.length cap) W ((hT.below hb).wider hb.size) (hO.below hb hO.lt) hsz)
 rw[Nt.oneB_other x hk];exact Tryz.nodeRight_other x.kind x.a x.t.op x.t.num a x.t.ks.length cap w hk
theorem Nt.enters_nodes:∀args w,(callFunc 126 args).run Tryz.prog w=.ok (.enter 126 args) w:=enters_of Tryz.func126 (by kernel_rfl) rfl
theorem Tryz.nodes1_any (k bn:Nat)(an:Option Addr)(cn B d:Nat)(ns:List Nd)(w:World)(hN:Nt.Nds w B d an ns)(hB:B<=w.heap.size)(hk:k<ns.length)(_hl:ns.length<=100)(hO:Tk.Ops w)(hsz:∀x,x∈ns->x.t.size<=2147483647)
  (c0:w.cell? ⟨bn,0,none⟩=some (.slice an ns.length cn)):
  Calls Tryz.prog 126 #[.int .i64 k,.pointer (some ⟨bn,0,none⟩)] w λe w'=>e=.returned (.bool (!Nt.oneB ns[k]))/\Below w.heap.size w w':=by
 obtain⟨q,off,u,rfl,hq,h0,h1,h2,h3,h4,h5⟩:=hN k hk;have hc:=Tryz.nodeRight_any d ns[k] u w (h5.wider hB) hO (hsz _ (List.getElem_mem hk));obtain⟨au,cu,rfl⟩:=h5.shape;obtain⟨nu,hnu⟩:=pE (ns[k].t.ks.length);obtain⟨x0,hx0⟩:=pE (ns[k].kind);obtain⟨x1,hx1⟩:=pE (ns[k].a);obtain⟨x2,hx2⟩:=pE (ns[k].t.op);obtain⟨x3,hx3⟩:=pE (ns[k].t.num);obtain⟨b,hb⟩:=pE (Nt.oneB ns[k]);rw[hx0,hx1,hx2,hx3,hnu,hb]at hc;rw[hx0]at h0;rw[hx1]at h1;rw[hx2]at h2;rw[hx3]at h3;rw[hnu]at h4;rw[hb];obtain⟨m,hm⟩:=pE (ns.length);rw[hm]at c0;have hkm:(k:Int)<m:=by omega
 have hk0:(0:Int)<=k:=by omega
 have HC:Hid _:=hc;have hu:=Tryz.underlying62;clear hc h5 hx0 hx1 hx2 hx3 hnu hb hm hN hO hsz hB hq
 go_enter Tryz.func126,Tryz.ntmps126
 go_wp2_with fail
 refine Calls.mono HC.out ?_;rintro e W ⟨rfl,hb⟩;have B2:Hid (Below w.heap.size w W):=hb;clear hb HC;go_wp2;go_ret;exact⟨Tk.ret_bool rfl,B2.out⟩
theorem Tryz.wrongNodes_any (an:Option Addr)(cn:Nat)(af:Option Addr)(cf d:Nat)(ns:List Nd)(fs:List Fl)(w:World)(hH:Nt.Has w w.heap.size d an af ns fs)(hO:Tk.Ops w):
  Calls Tryz.prog 100 #[.agg #[.slice an ns.length cn,.slice af fs.length cf]] w λe w'=>Nt.Gives (Nt.wrong1 ns fs) w e w':=by
 obtain⟨w1,hw1⟩:=pE (w.alloc (.cells #[.slice an ns.length cn,.slice af fs.length cf] 30));have A1:=pB hw1
 have hs1:w1.heap.size=w.heap.size+1:=by rw[<-hw1];simp
 have C0:w1.cell? ⟨w.heap.size,0,none⟩=some (.slice an ns.length cn):=by rw[<-hw1];simp
 have h:=Tryz.places_any (λk=> !((ns[k]?.map Nt.oneB).getD true)) 126 #[.pointer (some ⟨w.heap.size,0,none⟩)] Nt.enters_nodes ns.length w1 (λW k hk hb=>by
  have hbw:Below w.heap.size w W:=A1.trans (hb.mono (by omega))
  have h:=Tryz.nodes1_any k w.heap.size an cn w.heap.size d ns W (hH.nds.below hbw) hbw.size hk hH.nlen (hO.below hbw hO.lt) hH.nsz
   (by rw[hb.cell (p:=⟨w.heap.size,0,none⟩) (by show w.heap.size<w1.heap.size;omega)];exact C0)
  refine h.mono λe w' h=>⟨?_,h.2⟩;show e=Ending.returned (Value.bool (!((ns[k]?.map Nt.oneB).getD true)));rw[h.1,List.getElem?_eq_getElem hk]
  rfl) (by have:=hH.nlen;omega)
 obtain⟨l,hl2⟩:=pE (Nt.wrong1 ns fs);have hlen:=hH.nlen;have hlen2:=hH.flen;rw[hl2]
 by_cases hg:24<ns.length∨40<fs.length
 ·have hl3:l= [0]:=by rw[<-hl2,Nt.wrong1,if_pos (by simp[Nt.hugeB];omega)]
  subst hl3;clear h hH hl2 C0 A1;obtain⟨n,hn⟩:=pE (ns.length);obtain⟨m,hm⟩:=pE (fs.length);rw[hn,hm]at hg hw1⊢;clear hn hm hlen hlen2;obtain⟨w2,hw2⟩:=pE (w1.alloc (.cells #[.int .i64 0] 3))
  have HE:Hid (w2.ownsRow w.heap.size 3 1 (.slice (some ⟨w.heap.size+1,0,none⟩) 1 1) [0].length (Rk.nums [0])/\Below w.heap.size w w2):=by
   refine⟨?_, ?_⟩
   ·rw[<-hw2]
    exact⟨rfl,.inr ⟨w.heap.size+1,1,#[.int .i64 0],rfl,by omega,by rw[<-hs1];exact heap_alloc_new w1 _,Nat.le_refl _,by unfold maxLen;omega,rfl,rfl⟩⟩
   rw[<-hw2,<-hw1];exact((Below.refl _ w).alloc (Nat.le_refl _) _).alloc (by simp) _
  have H1:Hid (w.alloc (.cells #[.slice an n cn,.slice af m cf] 30)=w1/\w1.alloc (.cells #[.int .i64 0] 3)=w2):=⟨hw1,hw2⟩
  obtain h1|⟨h1,h2⟩:decide ((24:Int)<n)=true∨(decide ((24:Int)<n)=false/\decide ((40:Int)<m)=true):=by simp;omega
  all_goals
   clear hg hw1 hs1 hw2 hO
   go_enter Tryz.func100,Tryz.ntmps100
   go_wp2;go_ret;rw[H1.out.1,H1.out.2];exact⟨_,rfl,HE.out.1,HE.out.2⟩
 have hl3:(List.range ns.length).filter (λk=> !((ns[k]?.map Nt.oneB).getD true))=l:=by rw[<-hl2,Nt.wrong1,if_neg (by simp[Nt.hugeB];omega)]
 rw[hl3]at h;obtain⟨n,hn⟩:=pE (ns.length);obtain⟨m,hm⟩:=pE (fs.length);rw[hn]at h;rw[hn,hm]at hg hw1⊢;have h1:decide ((24:Int)<n)=false:=decide_eq_false (by omega);have h2:decide ((40:Int)<m)=false:=decide_eq_false (by omega);have HC:Hid _:=h;have H1:Hid (w.alloc (.cells #[.slice an n cn,.slice af m cf] 30)=w1):=hw1;have HA:Hid (Below w.heap.size w w1):=A1;clear h hH hO hl2 hl3 hn hm hw1 A1 hs1 C0 hg hlen hlen2
 go_enter Tryz.func100,Tryz.ntmps100
 go_wp2_with fail
 rw[H1.out];refine Calls.mono HC.out ?_;rintro e W ⟨v,rfl,how,hb⟩;have B2:Hid (W.ownsRow w.heap.size 3 1 v l.length (Rk.nums l)/\Below w.heap.size w W):=⟨Nt.own_lower how HA.out.size,HA.out.trans (hb.mono HA.out.size)⟩;clear hb HC how;go_wp2;go_ret;exact⟨v,rfl,B2.out.1,B2.out.2⟩
end Go.Proofs
namespace Go.Proofs
open Go.RowKit
theorem Tryz.plainTerm_any:∀(d:Nat) (S T:Tm) (va vb:Value) (d' B:Nat) (w:World),Tm.Lies w B d va S->Tm.Lies w B d' vb T->B<=w.heap.size->S.size<=2147483647->T.size<=2147483647->
  Calls Tryz.prog 34 #[.agg #[.int .i64 S.op,.int .i64 S.num,va],.agg #[.int .i64 T.op,.int .i64 T.num,vb]] w λe w'=>(∃r,e=.returned (.bool r)/\(r=true↔S=T))/\Below w.heap.size w w':=by
 intro d
 induction d with
 |zero=>intro S T va vb d' B w h;exact h.elim
 |succ d ih=>
  intro S T va vb d' B w hA hB hBs hsz hszT
  cases d' with
  |zero=>exact hB.elim
  |succ d'=>
  obtain⟨a,ca,rfl⟩:=hA.shape;obtain⟨b,cb,rfl⟩:=hB.shape;obtain⟨o,ho⟩:=pE (S.op);obtain⟨m,hm⟩:=pE (S.num);obtain⟨n,hn⟩:=pE (S.ks.length);obtain⟨o',ho'⟩:=pE (T.op);obtain⟨m',hm'⟩:=pE (T.num);obtain⟨n',hn'⟩:=pE (T.ks.length);have hn2:n<=2147483647:=by have:=Tm.length_le_sizes S.ks;have:=S.size_eq;omega
  have hn2':n'<=2147483647:=by have:=Tm.length_le_sizes T.ks;have:=T.size_eq;omega
  rw[ho,hm,hn,ho',hm',hn'];rw[hn]at hA;rw[hn']at hB;obtain⟨w0,hw0⟩:∃w0,w0=(w.alloc (.cells #[.int .i64 o,.int .i64 m,.slice a n ca] 24)).alloc (.cells #[.int .i64 o',.int .i64 m',.slice b n' cb] 24):=⟨_,rfl⟩;have A0:Hid (Below w.heap.size w w0):=by rw[hw0];exact((Below.refl _ w).alloc (Nat.le_refl _) _).alloc (by simp) _
  have AW:Hid (Below w.heap.size w ((w.alloc (.cells #[.int .i64 o,.int .i64 m,.slice a n ca] 24)).alloc (.cells #[.int .i64 o',.int .i64 m',.slice b n' cb] 24))):=((Below.refl _ w).alloc (Nat.le_refl _) _).alloc (by simp) _
  have HNE:Hid ((o≠o'∨m≠m'∨n≠n')->¬S=T):=λh e=>by
   subst e;rw[ho]at ho';rw[hm]at hm';rw[hn]at hn';omega
  by_cases h1:o=o'
  rotate_left
  ·have e1:(o==o')=false:=by simpa using h1
   have HN:Hid (¬S=T):=HNE.out (.inl h1);clear ih hA hB ho hm hn hw0 hBs hsz hszT ho' hm' hn' HNE A0
   go_enter Tryz.func34,Tryz.ntmps34
   go_wp2;go_ret;exact⟨⟨false,rfl,⟨λh=>by simp at h,λh=>absurd h HN.out⟩⟩,AW.out⟩
  by_cases h2:m=m'
  rotate_left
  ·have e2:(m==m')=false:=by simpa using h2
   have HN:Hid (¬S=T):=HNE.out (.inr (.inl h2));subst h1;clear ih hA hB ho hm hn hw0 hBs hsz hszT ho' hm' hn' HNE A0
   go_enter Tryz.func34,Tryz.ntmps34
   go_wp2;go_ret;exact⟨⟨false,rfl,⟨λh=>by simp at h,λh=>absurd h HN.out⟩⟩,AW.out⟩
  by_cases h3:n=n'
  rotate_left
  ·have e3:((n:Int)==(n':Int))=false:=by simp;omega
   have HN:Hid (¬S=T):=HNE.out (.inr (.inr h3));subst h1 h2;clear ih hA hB ho hm hn hw0 hBs hsz hszT ho' hm' hn' h3 HNE A0
   go_enter Tryz.func34,Tryz.ntmps34
   go_wp2;go_ret;exact⟨⟨false,rfl,⟨λh=>by simp at h,λh=>absurd h HN.out⟩⟩,AW.out⟩
  subst h1 h2 h3;have HA:Hid (Tm.Lies w B (d+1) (.slice a n ca) S):=hA;have HB:Hid (Tm.Lies w B (d'+1) (.slice b n cb) T):=hB;have HI:Hid _:=ih;have HM:Hid (S.ks.length=n/\B<=w.heap.size/\S.size<=2147483647/\T.ks.length=n/\T.size<=2147483647/\(S=T↔S.ks=T.ks)):=⟨hn,hBs,hsz,hn',hszT,by rw[Tm.eq_iff,ho,hm,ho',hm'];simp⟩;have S0:Hid (w0.heap.size=w.heap.size+2):=by show _=_;rw[hw0];simp
  have C0:Hid (w0.heap[w.heap.size]? =some (.cells #[.int .i64 o,.int .i64 m,.slice a n ca] 24 (0,0))):=by show _=_;rw[hw0,Below.heap_alloc _ _ _ (by simp)];exact heap_alloc_new w _
  have C1:Hid (w0.heap[w.heap.size+1]? =some (.cells #[.int .i64 o,.int .i64 m,.slice b n cb] 24 (0,0))):=by
   show _=_;rw[hw0];have:=heap_alloc_new (w.alloc (.cells #[.int .i64 o,.int .i64 m,.slice a n ca] 24)) (.cells #[.int .i64 o,.int .i64 m,.slice b n cb] 24);simpa using this
  have HW0:Hid (w0=_):=hw0;clear ih hA hB ho hm hn hw0 hBs hsz hszT ho' hm' hn'
  go_enter Tryz.func34,Tryz.ntmps34
  go_wp2
  go_loopg [30] n (λg i wr=>∃j:Nat,g+j=n/\i=.int .i64 j/\Hid (Below w0.heap.size w0 wr/\S.ks.take j=T.ks.take j))
  case atStart=>exact⟨0,by omega,rfl,by rw[HW0.out];exact Below.refl _ _,by simp⟩
  case round=>
   obtain⟨j,hj,rfl,HJ⟩:=hrel
   by_cases hjn:j<n
   rotate_left
   ·go_wp2
    go_ret;refine⟨⟨true,rfl,⟨λ_=> ?_,λ_=>rfl⟩⟩,A0.out.trans (HJ.out.1.mono A0.out.size)⟩;have h:=HJ.out.2;rw[List.take_of_length_le (by rw[HM.out.1];omega),List.take_of_length_le (by rw[HM.out.2.2.2.1];omega)]at h;exact HM.out.2.2.2.2.2.2 h
   have hjk:j<S.ks.length:=by rw[HM.out.1];exact hjn
   have hjk':j<T.ks.length:=by rw[HM.out.2.2.2.1];exact hjn
   have hxs:=Tm.sizes_get S.ks j hjk;have hts:=S.size_eq;have hxs':=Tm.sizes_get T.ks j hjk';have hts':=T.size_eq;obtain⟨g,off,u,rfl,hg,q0,q1,q2,q3⟩:=HA.out.kid j hjk;obtain⟨g',off',u',rfl,hg',p0,p1,p2,p3⟩:=HB.out.kid j hjk';obtain⟨x,hx⟩:=pE (S.ks[j]);obtain⟨y,hy⟩:=pE (T.ks[j]);rw[hx]at q0 q1 q3 hxs;rw[hy]at p0 p1 p3 hxs';obtain⟨au,cu,rfl⟩:=q3.shape;obtain⟨bu,du,rfl⟩:=p3.shape;obtain⟨nx,hnx⟩:=pE (x.ks.length);obtain⟨ny,hny⟩:=pE (y.ks.length);rw[hnx]at q2 q3;rw[hny]at p2 p3;obtain⟨x0,hx0⟩:=pE (x.op);obtain⟨x1,hx1⟩:=pE (x.num);obtain⟨y0,hy0⟩:=pE (y.op);obtain⟨y1,hy1⟩:=pE (y.num);rw[hx0]at q0;rw[hx1]at q1;rw[hy0]at p0;rw[hy1]at p1;have hs0:=S0.out;have hbs:=HM.out.2.1;have hbw:Below w.heap.size w wr:=A0.out.trans (HJ.out.1.mono (by omega));have hc:∀g p,g<B->wr.cell? ⟨g,p,none⟩=w.cell? ⟨g,p,none⟩:=λg p hg=>hbw.cell (p:=⟨g,p,none⟩) (by show g<_;omega);have hc0:wr.cell? ⟨g,off+j*3,none⟩=some (.int .i64 x0):=by rw[hc _ _ hg];exact q0
   have hc1:wr.cell? ⟨g,off+j*3+1,none⟩=some (.int .i64 x1):=by rw[hc _ _ hg];exact q1
   have hc2:wr.cell? ⟨g,off+j*3+2,none⟩=some (.slice au nx cu):=by rw[hc _ _ hg];exact q2
   have hd0:wr.cell? ⟨g',off'+j*3,none⟩=some (.int .i64 y0):=by rw[hc _ _ hg'];exact p0
   have hd1:wr.cell? ⟨g',off'+j*3+1,none⟩=some (.int .i64 y1):=by rw[hc _ _ hg'];exact p1
   have hd2:wr.cell? ⟨g',off'+j*3+2,none⟩=some (.slice bu ny du):=by rw[hc _ _ hg'];exact p2
   obtain⟨⟨_,_,va2⟩,_⟩:=Tk.row3 ((HJ.out.1.block _ (by omega)).trans C0.out);obtain⟨⟨_,_,vb2⟩,_⟩:=Tk.row3 ((HJ.out.1.block _ (by omega)).trans C1.out)
   have HC:Hid (∀W,Below w0.heap.size w0 W->Calls Tryz.prog 34 #[.agg #[.int .i64 x0,.int .i64 x1,.slice au nx cu],.agg #[.int .i64 y0,.int .i64 y1,.slice bu ny du]] W λe w'=>∃r,e=.returned (.bool r)/\(r=true↔x=y)/\Below w0.heap.size w0 w'):=λW hW=>by
    have hbW:Below w.heap.size w W:=A0.out.trans (hW.mono (by omega));have:=HI.out x y (.slice au nx cu) (.slice bu ny du) d' B W (q3.keep λk hk=>hbW.block k (by omega)) (p3.keep λk hk=>hbW.block k (by omega)) (by have:=hbW.size;omega) (by have:=HM.out;omega) (by have:=HM.out;omega);rw[hx0,hx1,hy0,hy1]at this;exact this.mono λe w' ⟨⟨r,he,hr⟩,hb⟩=>⟨r,he,hr,hW.trans (hb.mono hW.size)⟩
   have HXY:Hid (S.ks[j]=x/\T.ks[j]=y):=⟨hx,hy⟩;clear hc q0 q1 q2 q3 p0 p1 p2 p3 hx hy hx0 hx1 hy0 hy1 hnx hny hbw hxs hts hxs' hts' hg hg' hs0 hbs
   go_upto_region 6 with fail
   go_region_with (first|(go_at_call 34;refine Calls.mono (HC.out _ (by first|exact HJ.out.1|exact Tk.below_drewN HJ.out.1 _)) ?_;rintro e W3 ⟨r,rfl,hr,b3⟩)|fail)
   all_goals
    have B3:Hid (Below w0.heap.size w0 W3):=b3;have HR:Hid (r=true↔x=y):=hr;clear b3 hr HC
    cases r
    ·go_wp2
     go_ret;refine⟨⟨false,rfl,⟨λh=>by simp at h,λh=> ?_⟩⟩,A0.out.trans (B3.out.mono A0.out.size)⟩;have hk:=HM.out.2.2.2.2.2.1 h
     have hxy:x=y:=by
      rw[<-HXY.out.1,<-HXY.out.2];simp only[hk]
     exact HR.out.2 hxy
    have HN:Hid (S.ks.take (j+1)=T.ks.take (j+1)):=by
     show _=_;rw[Tm.take_snoc _ _ hjk,Tm.take_snoc _ _ hjk',HJ.out.2,HXY.out.1,HXY.out.2,HR.out.1 rfl]
    go_wp2;go_roundg (gk-1)
    case measure=>omega
    case rel=>exact⟨j+1,by omega,by go_num,B3.out,HN.out⟩
end Go.Proofs
