import Derived.Test.YtmomffminkflnaaGreatDoorRNtThreeC
set_option maxRecDepth 100000
set_option maxHeartbeats 32000000
namespace Go.Proofs
open Go.RowKit Go.Shelf
theorem Tryz.nodeRight_plain(k a op num m:Int)(sa:Option Addr)(n cap:Nat)(zb:Bool)(w:World)(hk:(k=1/\m=0)∨(k=2/\m=0)∨(k=5/\m=0)∨(k=6/\m=0)∨(k=7/\m=0)∨(k=3/\m=3)∨(k=8/\m=4))
  (hZ: ∀W,Calls Tryz.prog 151 #[.agg #[.int .i64 op, .int .i64 num, .slice sa n cap]]W λe w'=>e= .returned(.bool zb)/\Below W.heap.size W w'):
  Calls Tryz.prog 134 #[.agg #[.int .i64 k, .int .i64 a, .int .i64 op, .int .i64 num, .slice sa n cap]]w λe w'=>e= .returned(.bool(decide(0<=a)&&decide(a<=m)&&zb))/\Below w.heap.size w w':=by
 have B0:Hid(Below w.heap.size w(w.alloc(.cells #[.int .i64 k, .int .i64 a, .int .i64 op, .int .i64 num, .slice sa n cap]76))):=(Below.refl _ w).alloc(Nat.le_refl _)_;have HZ:Hid _:=hZ;clear hZ
 rcases hk with⟨rfl,rfl⟩|⟨rfl,rfl⟩|⟨rfl,rfl⟩|⟨rfl,rfl⟩|⟨rfl,rfl⟩|⟨rfl,rfl⟩|⟨rfl,rfl⟩
 all_goals
  rcases Int.lt_or_le a 0 with h0|h0
  ·have e0:decide(0<=a)=false:=decide_eq_false(by omega)
   rw [e0];clear h0
   go_enter Tryz.func134,Tryz.ntmps134
   go_wp2;go_ret;exact⟨Tk.ret_bool rfl,B0.out⟩
  have e0:decide(0<=a)=true:=decide_eq_true h0;rw [e0]
  first
  |(by_cases h1:a<=0;rotate_left;exact(by
     have e1:decide(a<=0)=false:=decide_eq_false h1;rw [e1];clear h0 h1
     go_enter Tryz.func134,Tryz.ntmps134
     go_wp2;go_ret
     exact⟨Tk.ret_bool rfl,B0.out⟩)
    have e1:decide(a<=0)=true:=decide_eq_true h1
    rw [e1])
  |(by_cases h1:a<=3;rotate_left;exact(by
     have e1:decide(a<=3)=false:=decide_eq_false h1;rw [e1];clear h0 h1
     go_enter Tryz.func134,Tryz.ntmps134
     go_wp2;go_ret
     exact⟨Tk.ret_bool rfl,B0.out⟩)
    have e1:decide(a<=3)=true:=decide_eq_true h1
    rw [e1])
  |(by_cases h1:a<=4;rotate_left;exact(by
     have e1:decide(a<=4)=false:=decide_eq_false h1;rw [e1];clear h0 h1
     go_enter Tryz.func134,Tryz.ntmps134
     go_wp2;go_ret
     exact⟨Tk.ret_bool rfl,B0.out⟩)
    have e1:decide(a<=4)=true:=decide_eq_true h1
    rw [e1])
  clear h0 h1
  go_enter Tryz.func134,Tryz.ntmps134
  go_wp2_with fail
  refine Calls.mono(HZ.out _) ?_;rintro e W⟨rfl,hb⟩;have B2:Hid(Below w.heap.size w W):=B0.out.trans(hb.mono B0.out.size);clear hb HZ;go_wp2;go_ret;exact⟨Tk.ret_bool rfl,B2.out⟩
theorem Tryz.nodeRight_other(k a op num:Int)(sa:Option Addr)(n cap:Nat)(w:World)(hk:k<1∨8<k):
  Calls Tryz.prog 134 #[.agg #[.int .i64 k, .int .i64 a, .int .i64 op, .int .i64 num, .slice sa n cap]]w λe w'=>e= .returned(.bool false)/\Below w.heap.size w w':=by
 have B0:Hid(Below w.heap.size w(w.alloc(.cells #[.int .i64 k, .int .i64 a, .int .i64 op, .int .i64 num, .slice sa n cap]76))):=(Below.refl _ w).alloc(Nat.le_refl _)_;have e1:(k==1)=false:=by simp;omega
 have e2:(k==2)=false:=by simp;omega
 have e3:(k==3)=false:=by simp;omega
 have e4:(k==4)=false:=by simp;omega
 have e5:(k==5)=false:=by simp;omega
 have e6:(k==6)=false:=by simp;omega
 have e7:(k==7)=false:=by simp;omega
 have e8:(k==8)=false:=by simp;omega
 clear hk
 go_enter Tryz.func134,Tryz.ntmps134
 go_wp2;go_ret;exact⟨rfl,B0.out⟩
theorem Tryz.nodeRight_assign(a op num:Int)(sa:Option Addr)(n cap:Nat)(ob:Bool)(w:World)
  (hO: ∀W,Below w.heap.size w W->Calls Tryz.prog 150 #[.int .i64 1, .agg #[.int .i64 op, .int .i64 num, .slice sa n cap]]W λe w'=>e= .returned(.bool ob)/\Below W.heap.size W w'):
  Calls Tryz.prog 134 #[.agg #[.int .i64 4, .int .i64 a, .int .i64 op, .int .i64 num, .slice sa n cap]]w λe w'=>e= .returned(.bool(decide(0<=a)&&decide(a<=3)&&ob))/\Below w.heap.size w w':=by
 obtain⟨w1,hw1⟩: ∃x,w.alloc(.cells #[.int .i64 4, .int .i64 a, .int .i64 op, .int .i64 num, .slice sa n cap]76)=x:=⟨_,rfl⟩;have A1:Below w.heap.size w w1:=by rw [<-hw1];exact(Below.refl _ w).alloc(Nat.le_refl _)_
 have hs1:w1.heap.size=w.heap.size+1:=by rw [<-hw1];simp
 have C0:w1.heap[w.heap.size]? =some(.cells #[.int .i64 4, .int .i64 a, .int .i64 op, .int .i64 num, .slice sa n cap]76(0,0)):=by rw [<-hw1];exact heap_alloc_new w _
 have HO:Hid _:=hO w1 A1;have HZ:Hid(∀W,Calls Tryz.prog 151 #[.agg #[.int .i64 0, .int .i64 0, .slice none 0 0]]W λe w'=>e= .returned(.bool true)/\Below W.heap.size W w'):=λW=>Tryz.isZero_any(.mk 0 0 [])none 0 W;have H1:Hid(w.alloc(.cells #[.int .i64 4, .int .i64 a, .int .i64 op, .int .i64 num, .slice sa n cap]76)=w1):=hw1;have HA:Hid(Below w.heap.size w w1/\w1.heap.size=w.heap.size+1/\w1.heap[w.heap.size]? =some(.cells #[.int .i64 4, .int .i64 a, .int .i64 op, .int .i64 num, .slice sa n cap]76(0,0))):=⟨A1,hs1,C0⟩;clear hO hw1 A1 hs1 C0
 cases ob with
 |false=>
  rw [Bool.and_false]
  go_enter Tryz.func134,Tryz.ntmps134
  go_wp2_with fail
  rw [H1.out];refine Calls.mono HO.out ?_;rintro e W⟨rfl,hb⟩;have B2:Hid(Below w.heap.size w W):=HA.out.1.trans(hb.mono HA.out.1.size);clear hb HO;go_wp2;go_ret;exact⟨rfl,B2.out⟩
 |true=>
  rw [Bool.and_true]
  rcases Int.lt_or_le a 0 with h0|h0
  ·have e0:decide(0<=a)=false:=decide_eq_false(by omega)
   rw [e0];clear h0
   go_enter Tryz.func134,Tryz.ntmps134
   go_wp2_with fail
   rw [H1.out];refine Calls.mono HO.out ?_;rintro e W⟨rfl,hb⟩
   have hby:W.heap[w.heap.size]? =some(.cells #[.int .i64 4, .int .i64 a, .int .i64 op, .int .i64 num, .slice sa n cap]76(0,0)):=by
    rw [hb.block _(by have:=HA.out.2.1;omega)];exact HA.out.2.2
   have hc1:W.cell? ⟨w.heap.size,1,none⟩=some(.int .i64 a):=by simp [World.cell?,hby]
   have hc2:W.cell? ⟨w.heap.size,2,none⟩=some(.int .i64 op):=by simp [World.cell?,hby]
   have hc3:W.cell? ⟨w.heap.size,3,none⟩=some(.int .i64 num):=by simp [World.cell?,hby]
   have hc4:W.cell? ⟨w.heap.size,4,none⟩=some(.slice sa n cap):=by simp [World.cell?,hby]
   have hf2:W.frozen? ⟨w.heap.size,2,none⟩=false:=by simp [World.frozen?,hby]
   have hf3:W.frozen? ⟨w.heap.size,3,none⟩=false:=by simp [World.frozen?,hby]
   have hf4:W.frozen? ⟨w.heap.size,4,none⟩=false:=by simp [World.frozen?,hby]
   obtain⟨W2,hW2⟩: ∃x,((W.setCell⟨w.heap.size,2,none⟩(.int .i64 0)).setCell⟨w.heap.size,3,none⟩(.int .i64 0)).setCell⟨w.heap.size,4,none⟩(.slice none 0 0)=x:=⟨_,rfl⟩
   have B2:Hid(Below w.heap.size w W2):=by
    show Below _ _ _;rw [<-hW2];exact(((HA.out.1.trans(hb.mono HA.out.1.size)).setCell(p:=⟨w.heap.size,2,none⟩)(Nat.le_refl _)_).setCell(p:=⟨w.heap.size,3,none⟩)(Nat.le_refl _)_).setCell(p:=⟨w.heap.size,4,none⟩)(Nat.le_refl _)_
   have HW2:Hid(((W.setCell⟨w.heap.size,2,none⟩(.int .i64 0)).setCell⟨w.heap.size,3,none⟩(.int .i64 0)).setCell⟨w.heap.size,4,none⟩(.slice none 0 0)=W2):=hW2;clear hb HO hby hW2;go_wp2;go_ret;rw [HW2.out];exact⟨rfl,B2.out⟩
  have e0:decide(0<=a)=true:=decide_eq_true h0;rw [e0]
  by_cases h3:a<=3
  rotate_left
  ·have e3:decide(a<=3)=false:=decide_eq_false h3
   rw [e3];clear h0 h3
   go_enter Tryz.func134,Tryz.ntmps134
   go_wp2_with fail
   rw [H1.out];refine Calls.mono HO.out ?_;rintro e W⟨rfl,hb⟩
   have hby:W.heap[w.heap.size]? =some(.cells #[.int .i64 4, .int .i64 a, .int .i64 op, .int .i64 num, .slice sa n cap]76(0,0)):=by
    rw [hb.block _(by have:=HA.out.2.1;omega)];exact HA.out.2.2
   have hc1:W.cell? ⟨w.heap.size,1,none⟩=some(.int .i64 a):=by simp [World.cell?,hby]
   have hc2:W.cell? ⟨w.heap.size,2,none⟩=some(.int .i64 op):=by simp [World.cell?,hby]
   have hc3:W.cell? ⟨w.heap.size,3,none⟩=some(.int .i64 num):=by simp [World.cell?,hby]
   have hc4:W.cell? ⟨w.heap.size,4,none⟩=some(.slice sa n cap):=by simp [World.cell?,hby]
   have hf2:W.frozen? ⟨w.heap.size,2,none⟩=false:=by simp [World.frozen?,hby]
   have hf3:W.frozen? ⟨w.heap.size,3,none⟩=false:=by simp [World.frozen?,hby]
   have hf4:W.frozen? ⟨w.heap.size,4,none⟩=false:=by simp [World.frozen?,hby]
   obtain⟨W2,hW2⟩: ∃x,((W.setCell⟨w.heap.size,2,none⟩(.int .i64 0)).setCell⟨w.heap.size,3,none⟩(.int .i64 0)).setCell⟨w.heap.size,4,none⟩(.slice none 0 0)=x:=⟨_,rfl⟩
   have B2:Hid(Below w.heap.size w W2):=by
    show Below _ _ _;rw [<-hW2];exact(((HA.out.1.trans(hb.mono HA.out.1.size)).setCell(p:=⟨w.heap.size,2,none⟩)(Nat.le_refl _)_).setCell(p:=⟨w.heap.size,3,none⟩)(Nat.le_refl _)_).setCell(p:=⟨w.heap.size,4,none⟩)(Nat.le_refl _)_
   have HW2:Hid(((W.setCell⟨w.heap.size,2,none⟩(.int .i64 0)).setCell⟨w.heap.size,3,none⟩(.int .i64 0)).setCell⟨w.heap.size,4,none⟩(.slice none 0 0)=W2):=hW2;clear hb HO hby hW2;go_wp2;go_ret;rw [HW2.out];exact⟨rfl,B2.out⟩
  have e3:decide(a<=3)=true:=decide_eq_true h3;rw [e3];clear h0 h3
  go_enter Tryz.func134,Tryz.ntmps134
  go_wp2_with fail
  rw [H1.out];refine Calls.mono HO.out ?_;rintro e W⟨rfl,hb⟩
  have hby:W.heap[w.heap.size]? =some(.cells #[.int .i64 4, .int .i64 a, .int .i64 op, .int .i64 num, .slice sa n cap]76(0,0)):=by
   rw [hb.block _(by have:=HA.out.2.1;omega)];exact HA.out.2.2
  have hc1:W.cell? ⟨w.heap.size,1,none⟩=some(.int .i64 a):=by simp [World.cell?,hby]
  have hc2:W.cell? ⟨w.heap.size,2,none⟩=some(.int .i64 op):=by simp [World.cell?,hby]
  have hc3:W.cell? ⟨w.heap.size,3,none⟩=some(.int .i64 num):=by simp [World.cell?,hby]
  have hc4:W.cell? ⟨w.heap.size,4,none⟩=some(.slice sa n cap):=by simp [World.cell?,hby]
  have hf2:W.frozen? ⟨w.heap.size,2,none⟩=false:=by simp [World.frozen?,hby]
  have hf3:W.frozen? ⟨w.heap.size,3,none⟩=false:=by simp [World.frozen?,hby]
  have hf4:W.frozen? ⟨w.heap.size,4,none⟩=false:=by simp [World.frozen?,hby]
  obtain⟨W2,hW2⟩: ∃x,((W.setCell⟨w.heap.size,2,none⟩(.int .i64 0)).setCell⟨w.heap.size,3,none⟩(.int .i64 0)).setCell⟨w.heap.size,4,none⟩(.slice none 0 0)=x:=⟨_,rfl⟩
  have B2:Hid(Below w.heap.size w W2):=by
   show Below _ _ _;rw [<-hW2];exact(((HA.out.1.trans(hb.mono HA.out.1.size)).setCell(p:=⟨w.heap.size,2,none⟩)(Nat.le_refl _)_).setCell(p:=⟨w.heap.size,3,none⟩)(Nat.le_refl _)_).setCell(p:=⟨w.heap.size,4,none⟩)(Nat.le_refl _)_
  have HW2:Hid(((W.setCell⟨w.heap.size,2,none⟩(.int .i64 0)).setCell⟨w.heap.size,3,none⟩(.int .i64 0)).setCell⟨w.heap.size,4,none⟩(.slice none 0 0)=W2):=hW2;clear hb HO hby hW2
  go_wp2_with fail
  rw [HW2.out];refine Calls.mono(HZ.out _) ?_;rintro e W3⟨rfl,hb⟩;have B3:Hid(Below w.heap.size w W3):=B2.out.trans(hb.mono B2.out.size);clear hb HZ;go_wp2;go_ret;exact⟨rfl,B3.out⟩
theorem Nt.oneB_plain(x:Nd)(m:Int)(hk:(x.kind=1/\m=0)∨(x.kind=2/\m=0)∨(x.kind=5/\m=0)∨(x.kind=6/\m=0)∨(x.kind=7/\m=0)∨(x.kind=3/\m=3)∨(x.kind=8/\m=4)):Nt.oneB x=(decide(0<=x.a)&&decide(x.a<=m)&&Nt.zeroB x.t):=by
 unfold Nt.oneB Nt.mostN
 rcases hk with⟨h,rfl⟩|⟨h,rfl⟩|⟨h,rfl⟩|⟨h,rfl⟩|⟨h,rfl⟩|⟨h,rfl⟩|⟨h,rfl⟩<;>rw [h]<;>simp
theorem Nt.oneB_assign(x:Nd)(hk:x.kind=4):Nt.oneB x=(decide(0<=x.a)&&decide(x.a<=3)&&Nt.ofB x.t 1):=by
 unfold Nt.oneB Nt.mostN;rw [hk]
 simp
theorem Nt.oneB_other(x:Nd)(hk:x.kind<1∨8<x.kind):Nt.oneB x=false:=by
 unfold Nt.oneB;rw [decide_eq_false(by omega)];rfl
theorem Nt.kinds(k:Int):(∃m,(k=1/\m=0)∨(k=2/\m=0)∨(k=5/\m=0)∨(k=6/\m=0)∨(k=7/\m=0)∨(k=3/\m=3)∨(k=8/\m=(4:Int)))∨k=4∨(k<1∨8<k):=by
 by_cases h4:k=4
 ·exact .inr(.inl h4)
 by_cases h:k<1∨8<k
 ·exact .inr(.inr h)
 refine .inl⟨if k=3 then 3 else if k=8 then 4 else 0, ?_⟩
 (repeat' split)<;>omega
theorem Tryz.nodeRight_any(d:Nat)(x:Nd)(v:Value)(w:World)(hT:Tm.Lies w w.heap.size d v x.t)(hO:Tk.Ops w)(hsz:x.t.size<=2147483647):
  Calls Tryz.prog 134 #[.agg #[.int .i64 x.kind, .int .i64 x.a, .int .i64 x.t.op, .int .i64 x.t.num,v]]w λe w'=>e= .returned(.bool(Nt.oneB x))/\Below w.heap.size w w':=by
 obtain⟨a,cap,rfl⟩:=hT.shape
 rcases Nt.kinds x.kind with⟨m,hk⟩|hk|hk
 ·rw [Nt.oneB_plain x m hk]
  exact Tryz.nodeRight_plain x.kind x.a x.t.op x.t.num m a x.t.ks.length cap(Nt.zeroB x.t)w hk(λW=>Tryz.isZero_any x.t a cap W)
 ·rw [Nt.oneB_assign x hk,hk]
  exact Tryz.nodeRight_assign x.a x.t.op x.t.num a x.t.ks.length cap(Nt.ofB x.t 1)w(λW hb=>Tryz.isOf_any 1 d x.t(.slice a x.t.ks.length cap)W((hT.below hb).wider hb.size)(hO.below hb hO.lt)hsz)
 rw [Nt.oneB_other x hk];exact Tryz.nodeRight_other x.kind x.a x.t.op x.t.num a x.t.ks.length cap w hk
theorem Nt.enters_nodes: ∀args w,(callFunc 133 args).run Tryz.prog w= .ok(.enter 133 args)w:=enters_of Tryz.func133(by kernel_rfl)rfl
theorem Tryz.nodes1_any(k bn:Nat)(an:Option Addr)(cn B d:Nat)(ns:List Nd)(w:World)(hN:Nt.Nds w B d an ns)(hB:B<=w.heap.size)(hk:k<ns.length)(_hl:ns.length<=100)(hO:Tk.Ops w)(hsz: ∀x,x∈ns->x.t.size<=2147483647)
  (c0:w.cell? ⟨bn,0,none⟩=some(.slice an ns.length cn)):
  Calls Tryz.prog 133 #[.int .i64 k, .pointer(some⟨bn,0,none⟩)]w λe w'=>e= .returned(.bool(!Nt.oneB ns[k]))/\Below w.heap.size w w':=by
 obtain⟨q,off,u,rfl,hq,h0,h1,h2,h3,h4,h5⟩:=hN k hk;have hc:=Tryz.nodeRight_any d ns[k]u w(h5.wider hB)hO(hsz _(List.getElem_mem hk));obtain⟨au,cu,rfl⟩:=h5.shape;obtain⟨nu,hnu⟩: ∃n,ns[k].t.ks.length=n:=⟨_,rfl⟩;obtain⟨x0,hx0⟩: ∃x,ns[k].kind=x:=⟨_,rfl⟩;obtain⟨x1,hx1⟩: ∃x,ns[k].a=x:=⟨_,rfl⟩;obtain⟨x2,hx2⟩: ∃x,ns[k].t.op=x:=⟨_,rfl⟩;obtain⟨x3,hx3⟩: ∃x,ns[k].t.num=x:=⟨_,rfl⟩;obtain⟨b,hb⟩: ∃x,Nt.oneB ns[k]=x:=⟨_,rfl⟩;rw [hx0,hx1,hx2,hx3,hnu,hb]at hc;rw [hx0]at h0;rw [hx1]at h1;rw [hx2]at h2;rw [hx3]at h3;rw [hnu]at h4;rw [hb];obtain⟨m,hm⟩: ∃m,ns.length=m:=⟨_,rfl⟩;rw [hm]at c0;have hkm:(k:Int)<m:=by omega
 have hk0:(0:Int)<=k:=by omega
 have HC:Hid _:=hc;have hu:=Tryz.underlying76;clear hc h5 hx0 hx1 hx2 hx3 hnu hb hm hN hO hsz hB hq
 go_enter Tryz.func133,Tryz.ntmps133
 go_wp2_with fail
 refine Calls.mono HC.out ?_;rintro e W⟨rfl,hb⟩;have B2:Hid(Below w.heap.size w W):=hb;clear hb HC;go_wp2;go_ret;exact⟨Tk.ret_bool rfl,B2.out⟩
theorem Tryz.wrongNodes_any(an:Option Addr)(cn:Nat)(af:Option Addr)(cf d:Nat)(ns:List Nd)(fs:List Fl)(w:World)(hH:Nt.Has w w.heap.size d an af ns fs)(hO:Tk.Ops w):
  Calls Tryz.prog 109 #[.agg #[.slice an ns.length cn, .slice af fs.length cf]]w λe w'=>Nt.Gives(Nt.wrong1 ns fs)w e w':=by
 obtain⟨w1,hw1⟩: ∃x,w.alloc(.cells #[.slice an ns.length cn, .slice af fs.length cf]30)=x:=⟨_,rfl⟩;have A1:Below w.heap.size w w1:=by rw [<-hw1];exact(Below.refl _ w).alloc(Nat.le_refl _)_
 have hs1:w1.heap.size=w.heap.size+1:=by rw [<-hw1];simp
 have C0:w1.cell? ⟨w.heap.size,0,none⟩=some(.slice an ns.length cn):=by rw [<-hw1];simp
 have h:=Tryz.places_any(λk=> !((ns[k]?.map Nt.oneB).getD true))133 #[.pointer(some⟨w.heap.size,0,none⟩)]Nt.enters_nodes ns.length w1(λW k hk hb=>by
  have hbw:Below w.heap.size w W:=A1.trans(hb.mono(by omega))
  have h:=Tryz.nodes1_any k w.heap.size an cn w.heap.size d ns W(hH.nds.below hbw)hbw.size hk hH.nlen(hO.below hbw hO.lt)hH.nsz
   (by rw [hb.cell(p:=⟨w.heap.size,0,none⟩)(by show w.heap.size<w1.heap.size;omega)];exact C0)
  refine h.mono λe w' h=>⟨?_,h.2⟩;show e=Ending.returned(Value.bool(!((ns[k]?.map Nt.oneB).getD true)));rw [h.1,List.getElem?_eq_getElem hk]
  rfl)(by have:=hH.nlen;omega)
 obtain⟨l,hl2⟩: ∃l,Nt.wrong1 ns fs=l:=⟨_,rfl⟩;have hlen:=hH.nlen;have hlen2:=hH.flen;rw [hl2]
 by_cases hg:24<ns.length∨40<fs.length
 ·have hl3:l= [0]:=by rw [<-hl2,Nt.wrong1,if_pos(by simp [Nt.hugeB];omega)]
  subst hl3;clear h hH hl2 C0 A1;obtain⟨n,hn⟩: ∃n,ns.length=n:=⟨_,rfl⟩;obtain⟨m,hm⟩: ∃n,fs.length=n:=⟨_,rfl⟩;rw [hn,hm]at hg hw1⊢;clear hn hm hlen hlen2;obtain⟨w2,hw2⟩: ∃x,w1.alloc(.cells #[.int .i64 0]3)=x:=⟨_,rfl⟩
  have HE:Hid(w2.ownsRow w.heap.size 3 1(.slice(some⟨w.heap.size+1,0,none⟩)1 1) [0].length(Rk.nums [0])/\Below w.heap.size w w2):=by
   refine⟨?_, ?_⟩
   ·rw [<-hw2]
    exact⟨rfl, .inr⟨w.heap.size+1,1, #[.int .i64 0],rfl,by omega,by rw [<-hs1];exact heap_alloc_new w1 _,Nat.le_refl _,by unfold maxLen;omega,rfl,rfl⟩⟩
   rw [<-hw2,<-hw1];exact((Below.refl _ w).alloc(Nat.le_refl _)_).alloc(by simp)_
  have H1:Hid(w.alloc(.cells #[.slice an n cn, .slice af m cf]30)=w1/\w1.alloc(.cells #[.int .i64 0]3)=w2):=⟨hw1,hw2⟩
  obtain h1|⟨h1,h2⟩:decide((24:Int)<n)=true∨(decide((24:Int)<n)=false/\decide((40:Int)<m)=true):=by simp;omega
  all_goals
   clear hg hw1 hs1 hw2 hO
   go_enter Tryz.func109,Tryz.ntmps109
   go_wp2;go_ret;rw [H1.out.1,H1.out.2];exact⟨_,rfl,HE.out.1,HE.out.2⟩
 have hl3:(List.range ns.length).filter(λk=> !((ns[k]?.map Nt.oneB).getD true))=l:=by rw [<-hl2,Nt.wrong1,if_neg(by simp [Nt.hugeB];omega)]
 rw [hl3]at h;obtain⟨n,hn⟩: ∃n,ns.length=n:=⟨_,rfl⟩;obtain⟨m,hm⟩: ∃n,fs.length=n:=⟨_,rfl⟩;rw [hn]at h;rw [hn,hm]at hg hw1⊢;have h1:decide((24:Int)<n)=false:=decide_eq_false(by omega);have h2:decide((40:Int)<m)=false:=decide_eq_false(by omega);have HC:Hid _:=h;have H1:Hid(w.alloc(.cells #[.slice an n cn, .slice af m cf]30)=w1):=hw1;have HA:Hid(Below w.heap.size w w1):=A1;clear h hH hO hl2 hl3 hn hm hw1 A1 hs1 C0 hg hlen hlen2
 go_enter Tryz.func109,Tryz.ntmps109
 go_wp2_with fail
 rw [H1.out];refine Calls.mono HC.out ?_;rintro e W⟨v,rfl,how,hb⟩;have B2:Hid(W.ownsRow w.heap.size 3 1 v l.length(Rk.nums l)/\Below w.heap.size w W):=⟨Nt.own_lower how HA.out.size,HA.out.trans(hb.mono HA.out.size)⟩;clear hb HC how;go_wp2;go_ret;exact⟨v,rfl,B2.out.1,B2.out.2⟩
noncomputable def Nt.wrongAt(ns:List Nd)(fs:List Fl):Nat->List Nat
 |0=>Nt.wrong1 ns fs
 |1=>Nt.wrong2 ns fs
 |2=>Nt.wrong3 ns fs
 |_=>Nt.wrong4 ns fs
theorem Nt.broken_at {ns:List Nd} {fs:List Fl} {j:Nat} (hj:j<4)(hb: ∀i,i<j->Nt.wrongAt ns fs i= [])(h:Nt.wrongAt ns fs j≠ []):Nt.broken ns fs=(j+1,Nt.wrongAt ns fs j):=by
 unfold Nt.broken
 match j,hj with
 |0,_=>
  have h0:(Nt.wrong1 ns fs).isEmpty=false:=by rw [List.isEmpty_eq_false_iff];exact h
  rw [if_pos h0];rfl
 |1,_=>
  have h0:Nt.wrong1 ns fs= []:=hb 0(by omega);have h1:(Nt.wrong2 ns fs).isEmpty=false:=by rw [List.isEmpty_eq_false_iff];exact h
  rw [if_neg(by rw [h0];simp),if_pos h1];rfl
 |2,_=>
  have h0:Nt.wrong1 ns fs= []:=hb 0(by omega);have h1:Nt.wrong2 ns fs= []:=hb 1(by omega);have h2:(Nt.wrong3 ns fs).isEmpty=false:=by rw [List.isEmpty_eq_false_iff];exact h
  rw [if_neg(by rw [h0];simp),if_neg(by rw [h1];simp),if_pos h2];rfl
 |3,_=>
  have h0:Nt.wrong1 ns fs= []:=hb 0(by omega);have h1:Nt.wrong2 ns fs= []:=hb 1(by omega);have h2:Nt.wrong3 ns fs= []:=hb 2(by omega);have h3:(Nt.wrong4 ns fs).isEmpty=false:=by rw [List.isEmpty_eq_false_iff];exact h
  rw [if_neg(by rw [h0];simp),if_neg(by rw [h1];simp),if_neg(by rw [h2];simp),if_pos h3];rfl
theorem Nt.broken_none {ns:List Nd} {fs:List Fl} (hb: ∀i,i<4->Nt.wrongAt ns fs i= []):Nt.broken ns fs=(0, []):=by
 have h0:Nt.wrong1 ns fs= []:=hb 0(by omega);have h1:Nt.wrong2 ns fs= []:=hb 1(by omega);have h2:Nt.wrong3 ns fs= []:=hb 2(by omega);have h3:Nt.wrong4 ns fs= []:=hb 3(by omega);unfold Nt.broken;rw [if_neg(by rw [h0];simp),if_neg(by rw [h1];simp),if_neg(by rw [h2];simp),if_neg(by rw [h3];simp)]
def Nt.rows(r:Nat)(l:List Nat):List Value:=l.flatMap λa:Nat=> [Value.int .i64(r:Int),Value.int .i64(a:Int)]
theorem Nt.rows_snoc(r:Nat)(l:List Nat)(a:Nat):Nt.rows r(l++ [a])=Nt.rows r l++ [.int .i64(r:Int), .int .i64(a:Int)]:=by simp [Nt.rows]
theorem Nt.infoBroken:(Tryz.prog.info? 134).map(λi=>(i.zero,i.size,i.bytes))=some(some(.agg #[.int .i64 0, .int .i64 0]),2,16):=by kernel_rfl
theorem Nt.two_cell(w:World)(r a:Int)(t:TypeId): ∀j u, [Value.int .i64 r,Value.int .i64 a][j]? =some u->(w.alloc(.cells #[.int .i64 r, .int .i64 a]t)).cell? ((⟨w.heap.size,0,none⟩:Addr).add j)=some u:=by
 intro j u hj
 match j,hj with
 |0,hj=>simp at hj;subst hj;simp [Addr.add]
 |1,hj=>simp at hj;subst hj;simp [Addr.add]
theorem Nt.two_one(r a:Int): ∀u∈ [Value.int .i64 r,Value.int .i64 a],u.oneCell'=true:=by
 intro u hu;simp at hu
 rcases hu with rfl|rfl<;>rfl
theorem Nt.own_cellA {w:World} {B:Nat} {v:Value} {l:List Nat} (h:w.ownsRow B 3 1 v l.length(Rk.nums l)): ∃a c,v= .slice a l.length c/\ ∀j x,l[j]? =some x-> ∃g,a=some⟨g,0,none⟩/\g<w.heap.size/\w.cell? ⟨g,j,none⟩=some(.int .i64((x:Nat):Int)):=by
 rcases h.2 with⟨hv,hn⟩|⟨g,cap,cur,hv,_,hg,h1,_,_,h2⟩
 ·exact⟨none,0,by rw [hv,hn],λj x hx=>by have:=(List.getElem?_eq_some_iff.1 hx).1;omega⟩
 refine⟨_,_,hv,λj x hx=>⟨g,rfl,(Array.getElem?_eq_some_iff.1 hg).1, ?_⟩⟩;obtain⟨hj,rfl⟩:=List.getElem?_eq_some_iff.1 hx
 have:cur[j]? =some(.int .i64 l[j]):=by
  have h3:(cur.toList.take(l.length*1))[j]? =(Rk.nums l)[j]? :=by rw [h2]
  rw [List.getElem?_take_of_lt(by omega)]at h3;rw [<-Array.getElem?_toList,h3];simp [Rk.nums,hj]
 unfold World.cell?;rw [hg];exact this
theorem Nt.own_nil {w:World} {B:Nat} {e:TypeId} {size:Nat} {v:Value} {k:Nat} {cs:List Value} (h:w.ownsRow B e size v k cs)(hk:0<k): ∃g c,v= .slice(some⟨g,0,none⟩)k c:=by
 rcases h.2 with⟨_,h1⟩|⟨g,cap,cur,h1,_⟩
 ·omega
 exact⟨g,cap,h1⟩
def Nt.AllGives(p:Nat×List Nat)(w:World)(e:Ending)(w':World):Prop:= ∃v,e= .returned v/\w'.ownsRow w.heap.size 134 2 v p.2.length(Nt.rows p.1 p.2)/\Below w.heap.size w w'
theorem Nt.wrong_call(j:Nat)(hj:j<4)(an:Option Addr)(cn:Nat)(af:Option Addr)(cf d:Nat)(ns:List Nd)(fs:List Fl)(w:World)(hH:Nt.Has w w.heap.size d an af ns fs)(hO:Tk.Ops w)(hb: ∀i,i<j->Nt.wrongAt ns fs i= []):
  ∃g,(#[109,110,111,112]:Array Nat)[j]? =some g/\(∀args w,(callFunc g args).run Tryz.prog w= .ok(.enter g args)w)/\Calls Tryz.prog g #[.agg #[.slice an ns.length cn, .slice af fs.length cf]]w λe w'=>Nt.Gives(Nt.wrongAt ns fs j)w e w':=by
 have e1: ∀h:(0:Nat)<j,ns.length<=24/\fs.length<=40:=λh=>Nt.one_keeps(by rw [show Nt.wrong1 ns fs= []from hb 0 h];rfl)
 have e2: ∀h:(1:Nat)<j,∀f,f∈fs->0<=f.fr/\f.fr<ns.length/\0<=f.to/\f.to<ns.length:=λh f hf=>by
  have:=Nt.two_keeps(ns:=ns)(fs:=fs)(by rw [show Nt.wrong2 ns fs= []from hb 1 h];rfl)f hf;exact⟨this.1,this.2.1,this.2.2.1,this.2.2.2.1⟩
 have e3: ∀h:(2:Nat)<j,0<=Nt.firstI ns 1/\0<=Nt.firstI ns 2:=λh=>Nt.three_keeps(fs:=fs)(by rw [show Nt.wrong3 ns fs= []from hb 2 h];rfl)
 match j,hj with
 |0,_=>exact⟨109,rfl,enters_of Tryz.func109(by kernel_rfl)rfl,Tryz.wrongNodes_any an cn af cf d ns fs w hH hO⟩
 |1,_=>exact⟨110,rfl,enters_of Tryz.func110(by kernel_rfl)rfl,Tryz.wrongFlows_any an cn af cf d ns fs w hH hO(e1(by omega)).1⟩
 |2,_=>exact⟨111,rfl,enters_of Tryz.func111(by kernel_rfl)rfl,Tryz.wrongJoints_any an cn af cf d ns fs w hH(e1(by omega)).1(λf hf=>(e2(by omega)f hf).2.2)⟩
 |3,_=>exact⟨112,rfl,enters_of Tryz.func112(by kernel_rfl)rfl,Tryz.strayNodes_any an cn af cf d ns fs w hH(e1(by omega)).1(e2(by omega))(e3(by omega)).1(e3(by omega)).2⟩
theorem Nt.wrong_len {ns:List Nd} {fs:List Fl} (hn:ns.length<=100)(hf:fs.length<=100)(j:Nat):(Nt.wrongAt ns fs j).length<=101:=by
 have hfil: ∀(n:Nat)(p:Nat->Bool),((List.range n).filter p).length<=n:=λn p=>by have:=List.length_filter_le p(List.range n);rwa [List.length_range]at this
 match j with
 |0=>
  show(Nt.wrong1 ns fs).length<=101;unfold Nt.wrong1
  split
  ·simp
  exact Nat.le_trans(hfil _ _)(by omega)
 |1=>
  show(Nt.wrong2 ns fs).length<=101;exact Nat.le_trans(hfil _ _)(by omega)
 |2=>
  show(Nt.wrong3 ns fs).length<=101;unfold Nt.wrong3;rw [List.length_append];have:=hfil ns.length(λi=> !Nt.jointB ns fs i)
  split<;>simp<;>omega
 |j+3=>
  show(Nt.wrong4 ns fs).length<=101;exact Nat.le_trans(hfil _ _)(by omega)
theorem Tryz.nAll_any(an:Option Addr)(cn:Nat)(af:Option Addr)(cf d:Nat)(ns:List Nd)(fs:List Fl)(w:World)(hH:Nt.Has w w.heap.size d an af ns fs)(hO:Tk.Ops w):
  Calls Tryz.prog 80 #[.agg #[.slice an ns.length cn, .slice af fs.length cf]]w λe w'=>Nt.AllGives(Nt.broken ns fs)w e w':=by
 obtain⟨i0,hi0,hz0,hz1,hz2⟩:=info_parts Nt.infoBroken;obtain⟨w1,hw1⟩: ∃x,(w.alloc(.cells #[.slice an ns.length cn, .slice af fs.length cf]30)).alloc(.cells #[.func(.func 109) #[] #[], .func(.func 110) #[] #[], .func(.func 111) #[] #[], .func(.func 112) #[] #[]]167)=x:=⟨_,rfl⟩;have A1:Below w.heap.size w w1:=by rw [<-hw1];exact((Below.refl _ w).alloc(Nat.le_refl _)_).alloc(by simp)_
 have G0:w1.heap[w.heap.size]? =some(.cells #[.slice an ns.length cn, .slice af fs.length cf]30(0,0)):=by rw [<-hw1,Below.heap_alloc _ _ _(by simp)];exact heap_alloc_new w _
 have G1:w1.heap[w.heap.size+1]? =some(.cells #[.func(.func 109) #[] #[], .func(.func 110) #[] #[], .func(.func 111) #[] #[], .func(.func 112) #[] #[]]167(0,0)):=by
  rw [<-hw1];have:=heap_alloc_new(w.alloc(.cells #[.slice an ns.length cn, .slice af fs.length cf]30))(.cells #[.func(.func 109) #[] #[], .func(.func 110) #[] #[], .func(.func 111) #[] #[], .func(.func 112) #[] #[]]167);simpa using this
 obtain⟨n,hnn⟩: ∃n,ns.length=n:=⟨_,rfl⟩;obtain⟨m,hmm⟩: ∃n,fs.length=n:=⟨_,rfl⟩
 have HW:Hid(∀(j:Nat)(W:World),j<4->Below w1.heap.size w1 W->(∀i,i<j->Nt.wrongAt ns fs i= [])-> ∃g,W.cell? ⟨w.heap.size+1,j,none⟩=some(.func(.func g) #[] #[])/\(∀args w,(callFunc g args).run Tryz.prog w= .ok(.enter g args)w)/\Calls Tryz.prog g #[.agg #[.slice an n cn, .slice af m cf]]W λe w'=>Nt.Gives(Nt.wrongAt ns fs j)W e w'):=λj W hj hb hbr=>by
  have hbw:Below w.heap.size w W:=A1.trans(hb.mono A1.size);obtain⟨g,hg,he,hc⟩:=Nt.wrong_call j hj an cn af cf d ns fs W((hH.below hbw).wider hbw.size)(hO.below hbw hO.lt)hbr;rw [hnn,hmm]at hc;refine⟨g, ?_,he,hc⟩;have hblk:=(hb.block _(Nt.lt_of G1)).trans G1
  match j,hj,hg with
  |0,_,hg=>simp at hg;subst hg;simp [World.cell?,hblk]
  |1,_,hg=>simp at hg;subst hg;simp [World.cell?,hblk]
  |2,_,hg=>simp at hg;subst hg;simp [World.cell?,hblk]
  |3,_,hg=>simp at hg;subst hg;simp [World.cell?,hblk]
 have HBX:Hid(∀W,Below w1.heap.size w1 W->W.cell? ⟨w.heap.size,0,none⟩=some(.slice an n cn)/\W.cell? ⟨w.heap.size,1,none⟩=some(.slice af m cf)):=λW hb=>by
  have:=Nt.box2((hb.block _(Nt.lt_of G0)).trans G0);rw [hnn,hmm]at this;exact this
 have HLN:Hid(∀j,(Nt.wrongAt ns fs j).length<=101):=Nt.wrong_len hH.nlen hH.flen;rw [hnn,hmm]at hw1;rw [hnn,hmm];obtain⟨p,hp⟩: ∃p,Nt.broken ns fs=p:=⟨_,rfl⟩;rw [hp];have HPB:Hid(Nt.broken ns fs=p):=hp;have H1:Hid((w.alloc(.cells #[.slice an n cn, .slice af m cf]30)).alloc(.cells #[.func(.func 109) #[] #[], .func(.func 110) #[] #[], .func(.func 111) #[] #[], .func(.func 112) #[] #[]]167)=w1):=hw1;have HA:Hid(Below w.heap.size w w1):=A1;clear hH hO hnn hmm hp hw1 A1 G0 G1
 go_enter Tryz.func80,Tryz.ntmps80
 go_wp2;rw [H1.out]
 go_loopg [12]4(λgk s12 wr=> ∃j:Nat,gk+j=4/\s12= .int .i64 j/\Hid(Below w1.heap.size w1 wr/\ ∀i,i<j->Nt.wrongAt ns fs i= []))
 case atStart=>exact⟨0,by omega,rfl,Below.refl _ _,λi hi=>by omega⟩
 case round=>
  obtain⟨j,hj,rfl,HI⟩:=hrel;clear H1
  by_cases hlt:j<4
  rotate_left
  ·have hd:decide((j:Int)<4)=false:=decide_eq_false(by omega)
   have hdn:decide(j<4)=false:=decide_eq_false hlt;have HP2:Hid(p=(0, [])):=by show _=_;rw [<-HPB.out];exact Nt.broken_none(λi hi=>HI.out.2 i(by omega))
   go_wp2;go_ret;rw [HP2.out];exact⟨_,rfl,World.ownsRow_nil _ _ _ _,HA.out.trans(HI.out.1.mono HA.out.size)⟩
  have hd:decide((j:Int)<4)=true:=decide_eq_true(by omega);have hdn:decide(j<4)=true:=decide_eq_true hlt;obtain⟨g,hgc,eg,hcall⟩:=HW.out j wr hlt HI.out.1 HI.out.2;obtain⟨p0,p1⟩:=HBX.out wr HI.out.1;have hj4:(j:Int)<4:=by omega
  have hj0:(0:Int)<=j:=by omega
  have HC:Hid _:=hcall;obtain⟨g1,hg1⟩: ∃x,gk=x:=⟨_,rfl⟩;have hwj:IntKind.i64.wrap((j:Int)+1)=((j+1:Nat):Int):=by rw [IntKind.wrap_i64];omega
  clear hcall
  go_wp2_with fail
  refine Calls.mono HC.out ?_;rintro e W1⟨v,rfl,how,hb1⟩;obtain⟨va,vc,rfl,hcs⟩:=Nt.own_cellA how;obtain⟨l,hl⟩: ∃l,Nt.wrongAt ns fs j=l:=⟨_,rfl⟩;have B1:Hid(Below w1.heap.size w1 W1):=HI.out.1.trans(hb1.mono HI.out.1.size);have HCS:Hid(∀k x,l[k]? =some x-> ∃g,va=some⟨g,0,none⟩/\g<W1.heap.size/\W1.cell? ⟨g,k,none⟩=some(.int .i64((x:Nat):Int))):=λk x hk=>hcs k x(by rw [hl];exact hk);have hl100:l.length<=101:=by rw [<-hl];exact HLN.out j
  have HLJ:Hid(Nt.wrongAt ns fs j=l):=hl;rw [hl];obtain⟨r,hr⟩: ∃r,l.length=r:=⟨_,rfl⟩;rw [hr]at hl100⊢;have HR:Hid(l.length=r):=hr;clear how hb1 hcs HC hl hr p0 p1 hgc;go_wp2
  go_loopg [6,8,21]r(λgk s6 _ s21 wr=> ∃k:Nat,gk+k=r/\s21= .int .i64 k/\Hid(Below W1.heap.size W1 wr)/\wr.ownsRow W1.heap.size 134 2 s6 k(Nt.rows(j+1)(l.take k))/\(k=0->s6= .slice none 0 0))
  case atStart=>exact⟨0,by omega,rfl,Below.refl _ _,by simpa [Nt.rows]using World.ownsRow_nil _ _ _ _,λ_=>rfl⟩
  case round=>
   obtain⟨k,hk,rfl,HJ,hown,hnil⟩:=hrel
   by_cases hlt2:k<r
   ·have hd2:decide((k:Int)<r)=true:=decide_eq_true(by omega)
    have hkl:k<l.length:=by rw [HR.out];exact hlt2
    obtain⟨gq,rfl,hgq,hcq⟩:=HCS.out k l[k](List.getElem?_eq_getElem hkl);obtain⟨x,hx⟩: ∃x,l[k]=x:=⟨_,rfl⟩;rw [hx]at hcq;have c0:wr.cell? ⟨gq,k,none⟩=some(.int .i64 x):=by rw [HJ.out.cell(p:=⟨gq,k,none⟩)hgq];exact hcq
    have HTK:Hid(Nt.rows(j+1)(l.take(k+1))=Nt.rows(j+1)(l.take k)++ [.int .i64((j+1:Nat):Int), .int .i64(x:Int)]):=by show _=_;rw [Tm.take_snoc _ _ hkl,hx,Nt.rows_snoc]
    obtain⟨av,cv,rfl⟩:=Rk.own_shape hown;have hsz:W1.heap.size<=wr.heap.size:=HJ.out.size;clear hcq hx hgq
    go_wp2_with(at_builtin;refine wpList_append_own _ rfl _ _ 132 rfl W1.heap.size 134 i0(.agg #[.int .i64 0, .int .i64 0])2 16 Tryz.underlying132 hi0 hz0 hz1 hz2 rfl(by decide)_ _ _ rfl(hown.alloc _)⟨wr.heap.size,0,none⟩1 1 [.int .i64((j+1:Nat):Int), .int .i64 x]rfl rfl(Nt.two_cell wr((j+1:Nat):Int)x 134)(Nt.two_one((j+1:Nat):Int)x) ?c3 ?c4 ?c5 ?_)
    case c3=>unfold maxLen;omega
    case c4=>omega
    case c5=>simp;omega
    intro v' W2 own2 g2 _;obtain⟨a2,c2',rfl⟩:=Rk.own_shape own2;have B2:Hid(Below W1.heap.size W1 W2):=Rk.below_grown(HJ.out.alloc hsz _)(by simp;omega)(hown.alloc _)g2;have own3:W2.ownsRow W1.heap.size 134 2(.slice a2(k+1)c2')(k+1)(Nt.rows(j+1)(l.take(k+1))):=by rw [HTK.out];exact own2
    clear own2 g2 hown;go_wp2;go_roundg(gk-1)
    case measure=>omega
    case rel=>exact⟨k+1,by omega,by go_num,B2.out,own3,λh=>by omega⟩
   have hd2:decide((k:Int)<r)=false:=decide_eq_false(by omega);have hkr:k=r:=by omega
   have htk:l.take k=l:=List.take_of_length_le(by rw [HR.out];omega);rw [htk]at hown;have B3:Hid(Below w1.heap.size w1 wr):=B1.out.trans(HJ.out.mono B1.out.size)
   rcases Nat.eq_zero_or_pos k with hk0|hkp
   ·have hv:=hnil hk0
    have HE:Hid(Nt.wrongAt ns fs j= []):=by
     show _=_;rw [HLJ.out];exact List.eq_nil_of_length_eq_zero(by rw [HR.out];omega)
    clear hown hnil htk;subst hv;go_wp2;go_roundg(g1-1)
    case measure=>omega
    case rel=>
     refine⟨j+1,by omega,by go_num,B3.out,λi hi=> ?_⟩
     rcases Nat.lt_or_ge i j with h|h
     ·exact HI.out.2 i h
     obtain rfl:i=j:=by omega
     exact HE.out
   obtain⟨gv,cv,rfl⟩:=Nt.own_nil hown hkp
   have HP2:Hid(p=(j+1,l)):=by
    show _=_;rw [<-HPB.out,Nt.broken_at hlt HI.out.2(by rw [HLJ.out];intro h;have:=HR.out;rw [h]at this;simp at this;omega),HLJ.out]
   have HO2:Hid(wr.ownsRow w.heap.size 134 2(.slice(some⟨gv,0,none⟩)k cv)l.length(Nt.rows(j+1)l)):=by
    show World.ownsRow _ _ _ _ _ _ _;have h:=Nt.own_lower hown(Nat.le_trans HA.out.size B1.out.size);rw [hkr]at h⊢;rw [HR.out];exact h
   clear hown hnil htk;go_wp2;go_ret;rw [HP2.out];exact⟨_,rfl,HO2.out,HA.out.trans(B3.out.mono HA.out.size)⟩
theorem Nt.broken_zero {ns:List Nd} {fs:List Fl} (h:(Nt.broken ns fs).2= []):(Nt.broken ns fs).1=0:=by
 unfold Nt.broken at h⊢
 split
 ·next h1=>rw [if_pos h1]at h;simp only at h;rw [h]at h1;simp at h1
 next h1=>
 rw [if_neg h1]at h
 split
 ·next h2=>rw [if_pos h2]at h;simp only at h;rw [h]at h2;simp at h2
 next h2=>
 rw [if_neg h2]at h
 split
 ·next h3=>rw [if_pos h3]at h;simp only at h;rw [h]at h3;simp at h3
 next h3=>
 rw [if_neg h3]at h
 split
 ·next h4=>rw [if_pos h4]at h;simp only at h;rw [h]at h4;simp at h4
 rfl
theorem Nt.own_pair {w:World} {B:Nat} {g c r:Nat} {l:List Nat} {n:Nat} (h:w.ownsRow B 134 2(.slice(some⟨g,0,none⟩)n c)l.length(Nt.rows r l))(j:Nat)(x:Nat)(hx:l[j]? =some x):w.cell? ⟨g,j*2,none⟩=some(.int .i64(r:Int))/\w.cell? ⟨g,j*2+1,none⟩=some(.int .i64(x:Int)):=by
 have hj:=(List.getElem?_eq_some_iff.1 hx).1
 rcases h.2 with⟨hv,_⟩|⟨g',cap,cur,hv,_,hg,h1,_,_,h2⟩
 ·simp at hv
 simp only [Value.slice.injEq,Option.some.injEq,Addr.mk.injEq,and_true]at hv;obtain⟨rfl,rfl,rfl⟩:=hv
 have hget: ∀k,k<l.length*2->cur[k]? =(Nt.rows r l)[k]? :=λk hk=>by
  rw [<-h2,List.getElem?_take_of_lt hk,Array.getElem?_toList]
 have hrow: ∀(l:List Nat)(j x:Nat),l[j]? =some x->(Nt.rows r l)[j*2]? =some(.int .i64(r:Int))/\(Nt.rows r l)[j*2+1]? =some(.int .i64(x:Int)):=by
  intro l
  induction l with
  |nil=>intro j x h;simp at h
  |cons a l ih=>
   intro j x h
   cases j with
   |zero=>simp at h;subst h;simp [Nt.rows]
   |succ j=>
    have:=ih j x(by simpa using h);have e:Nt.rows r(a::l)= .int .i64(r:Int):: .int .i64(a:Int)::Nt.rows r l:=by simp [Nt.rows]
    rw [e,show(j+1)*2=j*2+1+1 by omega,show j*2+1+1+1=(j*2+1)+1+1 by omega];simpa using this
 obtain⟨q0,q1⟩:=hrow l j x hx;unfold World.cell?;rw [hg];exact⟨(hget(j*2)(by omega)).trans q0,(hget(j*2+1)(by omega)).trans q1⟩
theorem Tryz.nCheck_any(an:Option Addr)(cn:Nat)(af:Option Addr)(cf d:Nat)(ns:List Nd)(fs:List Fl)(w:World)(hH:Nt.Has w w.heap.size d an af ns fs)(hO:Tk.Ops w):
  Calls Tryz.prog 64 #[.agg #[.slice an ns.length cn, .slice af fs.length cf]]w λe w'=>e= .returned(.tuple #[.int .i64((Nt.checkN ns fs).1:Int), .int .i64((Nt.checkN ns fs).2:Int)])/\Below w.heap.size w w':=by
 have A1:Below w.heap.size w(w.alloc(.cells #[.slice an ns.length cn, .slice af fs.length cf]30)):=(Below.refl _ w).alloc(Nat.le_refl _)_;have h:=Tryz.nAll_any an cn af cf d ns fs _((hH.below A1).wider A1.size)(hO.below A1 hO.lt);obtain⟨n,hnn⟩: ∃n,ns.length=n:=⟨_,rfl⟩;obtain⟨m,hmm⟩: ∃n,fs.length=n:=⟨_,rfl⟩;have hck:Nt.checkN ns fs=((Nt.broken ns fs).1,(Nt.broken ns fs).2.headD 0):=rfl;have hz:(Nt.broken ns fs).2= []->(Nt.broken ns fs).1=0:=Nt.broken_zero;obtain⟨p,hp⟩: ∃p,Nt.broken ns fs=p:=⟨_,rfl⟩;rw [hp]at h hck hz;rw [hck];rw [hnn,hmm]at h A1⊢;obtain⟨r,l⟩:=p;have HC:Hid _:=h;have HA:Hid _:=A1;have HZ:Hid(l= []->r=0):=hz;clear h A1 hck hz hp hH hO hnn hmm
 go_enter Tryz.func64,Tryz.ntmps64
 go_wp2_with fail
 refine Calls.mono HC.out ?_;rintro e W⟨v,rfl,how,hb⟩;have B2:Hid(Below w.heap.size w W):=HA.out.trans(hb.mono HA.out.size);clear hb HC;obtain⟨av,cv,rfl⟩:=Rk.own_shape how
 cases l with
 |nil=>
  have hr:=HZ.out rfl;subst hr;clear how;go_wp2;go_ret2;exact⟨rfl,B2.out⟩
 |cons x l=>
  obtain⟨g,c,hv⟩:=Nt.own_nil how(by simp);simp only [Value.slice.injEq]at hv;obtain⟨rfl,-,rfl⟩:=hv;obtain⟨c0,c1⟩:=Nt.own_pair how 0 x rfl;simp only [Nat.zero_mul,Nat.zero_add]at c0 c1;have hlen:(x::l).length=l.length+1:=rfl;rw [hlen];obtain⟨k,hk⟩: ∃k,l.length=k:=⟨_,rfl⟩;rw [hk];have e0:(((k+1:Nat):Int)==0)=false:=by simp;omega
  have hb0:(0:Int)<((k+1:Nat):Int):=by omega
  have BD:Hid(∀q,Below w.heap.size w(W.drewN q)):=λq=>Tk.below_drewN B2.out q;show _;clear how hlen hk HZ
  go_upto_region 4 with fail
  go_quiet(fail)
  go_wp2;go_ret2;exact⟨rfl,BD.out _⟩
namespace Ac
def zeroOf(k:Int):Ac:= .mk k 0 0 0(.mk 0 0 []) [] [] [] [] []
noncomputable def leftB(T:Ac):Bool:=by classical exact decide(Same1 T(zeroOf T.kind))&&decide(T.ks.length=0)
def numB(x c:Int):Bool:=decide(0<=x)&&decide(x<c)
def rest(T:Ac):Ac:=
 if T.kind=1 then T
 else if T.kind=5 then .mk T.kind 0 T.a T.b T.t T.cs T.ks T.ls T.ns T.fs
 else if T.kind=2∨T.kind=4 then .mk T.kind 0 0 T.b T.t T.cs T.ks T.ls T.ns T.fs
 else if T.kind=3 then .mk T.kind 0 0 T.b(.mk 0 0 [])T.cs T.ks T.ls T.ns T.fs
 else if T.kind=10 then .mk T.kind 0 0 T.b T.t T.cs []T.ls T.ns T.fs
 else if T.kind=11 then .mk T.kind 0 0 0 T.t [] []T.ls T.ns T.fs
 else if T.kind=8 then .mk T.kind 0 0 T.b T.t [] []T.ls T.ns T.fs
 else if T.kind=9 then .mk T.kind 0 T.a T.b T.t T.cs []T.ls T.ns T.fs
 else if T.kind=6∨T.kind=7 then .mk T.kind T.node T.a T.b T.t T.cs []T.ls T.ns T.fs
 else if T.kind=12 then(if T.a=3 then .mk T.kind 0 0 0 T.t []T.ks T.ls T.ns T.fs else .mk T.kind 0 0 T.b T.t T.cs T.ks T.ls T.ns T.fs)
 else if T.kind=13 then .mk T.kind T.node T.a T.b T.t T.cs [] []T.ns T.fs
 else .mk T.kind T.node T.a T.b T.t T.cs T.ks T.ls [] []
noncomputable def rightB(T:Ac):Bool:=
 if T.kind=1 then T.holdsB
 else if T.kind=5 then T.holdsB&&numB T.node 24
 else if T.kind=2∨T.kind=4 then(T.holdsB&&numB T.node 24)&&numB T.a 4
 else if T.kind=3 then((T.holdsB&&numB T.node 24)&&Nt.ofB T.t 1)&&numB T.a 4
 else if T.kind=10 then((T.holdsB&&numB T.node 24)&&decide(T.ks.length=1))&&numB T.a 5
 else if T.kind=11 then((((((T.holdsB&&numB T.node 24)&&decide(T.ks.length=2))&&numB T.b T.cs.length)&&decide(T.cs.length=T.ks.length))&&choiceB T.cs T.a)&&numB T.a T.cs.length)&&decide(2<=T.ks.length)
 else if T.kind=8 then((((T.holdsB&&numB T.node 24)&&decide(T.cs.length=T.ks.length))&&choiceB T.cs T.a)&&numB T.a T.cs.length)&&decide(2<=T.ks.length)
 else if T.kind=9 then(T.holdsB&&numB T.node 24)&&decide(2<=T.ks.length)
 else if T.kind=6∨T.kind=7 then T.holdsB&&decide(2<=T.ks.length)
 else if T.kind=12 then(if T.a=3 then(((((T.holdsB&&numB T.node 24)&&decide(2<=T.cs.length))&&choiceB T.cs T.b)&&numB T.b T.cs.length)&&decide(1<=T.a))&&numB T.a 5 else((T.holdsB&&numB T.node 24)&&decide(1<=T.a))&&numB T.a 5)
 else if T.kind=13 then T.holdsB&&T.linkedB
 else if T.kind=14 then T.holdsB&&decide((Nt.checkN T.ns T.fs).1=0)
 else false
noncomputable def formedB(T:Ac):Bool:=T.rightB&&leftB T.rest
end Ac
structure Ak.Fm(w:World)(X Rb:Nat)(row:Array Value)(b:Bool)(W:World):Prop where
 box:W.heap[X]? =some(.cells row 32(0,0))
 tr:W.heap[Rb]? =some(.cells #[.bool b]4(0,0))
 ne:X≠Rb
 bx:w.heap.size<=X
 br:w.heap.size<=Rb
 bel:Below w.heap.size w W
theorem Ak.Fm.below {w W W':World} {X Rb:Nat} {row:Array Value} {b:Bool} (h:Ak.Fm w X Rb row b W)(hb:Below W.heap.size W W'):Ak.Fm w X Rb row b W':=
 ⟨(hb.block _(Array.getElem?_eq_some_iff.1 h.box).1).trans h.box,(hb.block _(Array.getElem?_eq_some_iff.1 h.tr).1).trans h.tr,h.ne,h.bx,h.br,h.bel.trans(hb.mono h.bel.size)⟩
theorem Ak.Fm.setR {w W:World} {X Rb:Nat} {row:Array Value} {b:Bool} (h:Ak.Fm w X Rb row b W)(b':Bool):Ak.Fm w X Rb row b'(W.setCell⟨Rb,0,none⟩(.bool b')):=
 ⟨(Below.heap_setCell _ _ _ _ h.ne).trans h.box,by simp [World.setCell,Array.getElem?_modify,h.tr],h.ne,h.bx,h.br,h.bel.trans((Below.refl _ W).setCell(p:=⟨Rb,0,none⟩)h.br _)⟩
theorem Ak.Fm.setX {w W:World} {X Rb:Nat} {row:Array Value} {b:Bool} (h:Ak.Fm w X Rb row b W)(i:Nat)(v:Value):Ak.Fm w X Rb(row.setIfInBounds i v)b(W.setCell⟨X,i,none⟩v):=
 ⟨by simp [World.setCell,Array.getElem?_modify,h.box],(Below.heap_setCell _ _ _ _(Ne.symm h.ne)).trans h.tr,h.ne,h.bx,h.br,h.bel.trans((Below.refl _ W).setCell(p:=⟨X,i,none⟩)h.bx _)⟩
theorem Ak.Fm.cell {w W:World} {X Rb:Nat} {row:Array Value} {b:Bool} (h:Ak.Fm w X Rb row b W)(i:Nat):W.cell? ⟨X,i,none⟩=row[i]? :=by simp [World.cell?,h.box]
theorem Ak.Fm.fx {w W:World} {X Rb:Nat} {row:Array Value} {b:Bool} (h:Ak.Fm w X Rb row b W)(i:Nat):W.frozen? ⟨X,i,none⟩=false:=by simp [World.frozen?,h.box]
theorem Ak.Fm.fr {w W:World} {X Rb:Nat} {row:Array Value} {b:Bool} (h:Ak.Fm w X Rb row b W):W.frozen? ⟨Rb,0,none⟩=false:=by simp [World.frozen?,h.tr]
theorem Ak.Fm.cr {w W:World} {X Rb:Nat} {row:Array Value} {b:Bool} (h:Ak.Fm w X Rb row b W):W.cell? ⟨Rb,0,none⟩=some(.bool b):=by simp [World.cell?,h.tr]
end Go.Proofs
