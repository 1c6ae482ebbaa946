import Derived.Test.YtenaelpdnccgnaaGreatDoorQAllNtTwoB
import Derived.Test.YtenaelpdnccgnaaGreatDoorQAllNtOne
set_option maxRecDepth 100000
set_option maxHeartbeats 32000000
namespace Go.Proofs
open Go.RowKit Go.Shelf
theorem Tryz.rFirst_any (kd:Int)(a:Option Addr)(c d:Nat)(af:Option Addr)(m cf:Nat)(ns:List Nd)(w:World)(hE:Nt.Nds w w.heap.size d a ns)(hn:ns.length<=100):
  Calls Tryz.prog 111 #[.agg #[.slice a ns.length c,.slice af m cf],.int .i64 kd] w λe w'=>e=.returned (.int .i64 (Nt.firstI ns kd))/\Below w.heap.size w w':=by
 rw[Nt.firstI_eq];obtain⟨w1,hw1⟩:=pE (w.alloc (.cells #[.slice a ns.length c,.slice af m cf] 30));have A1:=pB hw1
 obtain⟨n,hnn⟩:=pE (ns.length);rw[hnn]at hn hw1⊢;obtain⟨r,hr⟩:=pE (Nt.findI (λx:Nd=>decide (x.kind=kd)) ns);rw[hr];have HR:Hid (Nt.findI (λx:Nd=>decide (x.kind=kd)) ns=r):=hr;have HE:Hid (Nt.Nds w w.heap.size d a ns/\ns.length=n):=⟨hE,hnn⟩;have H1:Hid (w.alloc (.cells #[.slice a n c,.slice af m cf] 30)=w1):=hw1;have HA:Hid (Below w.heap.size w w1):=A1;clear hE hnn hr hw1 A1
 go_enter Tryz.func111,Tryz.ntmps111
 go_wp2;rw[H1.out]
 go_loopg [10] n (λgk s10 wr=>∃k:Nat,gk+k=n/\s10=.int .i64 k/\Hid (Below w.heap.size w wr/\(ns.take k).any (λx:Nd=>decide (x.kind=kd))=false))
 case atStart=>exact⟨0,by omega,rfl,HA.out,by simp⟩
 case round=>
  obtain⟨k,hk,rfl,HB⟩:=hrel;clear H1 HA
  by_cases hlt:k<n
  rotate_left
  ·have hd:decide ((k:Int)<n)=false:=decide_eq_false (by omega)
   go_wp2;go_ret;have:=HB.out.2;rw[List.take_of_length_le (by rw[HE.out.2];omega)]at this;exact⟨Tk.ret_int ((Nt.findI_none this).symm.trans HR.out),HB.out.1⟩
  have hd:decide ((k:Int)<n)=true:=decide_eq_true (by omega);have hkl:k<ns.length:=by rw[HE.out.2];exact hlt
  obtain⟨q,off,u,rfl,hq,h0,h1,h2,h3,h4,h5⟩:=HE.out.1 k hkl;obtain⟨au,cu,rfl⟩:=h5.shape;obtain⟨nu,hnu⟩:=pE (ns[k].t.ks.length);rw[hnu]at h4;obtain⟨x0,hx0⟩:=pE (ns[k].kind);obtain⟨x1,hx1⟩:=pE (ns[k].a);obtain⟨x2,hx2⟩:=pE (ns[k].t.op);obtain⟨x3,hx3⟩:=pE (ns[k].t.num);have hc:∀o,wr.cell? ⟨q,o,none⟩=w.cell? ⟨q,o,none⟩:=λo=>HB.out.1.cell (p:=⟨q,o,none⟩) hq;have hc0:wr.cell? ⟨q,off+k*5,none⟩=some (.int .i64 x0):=by rw[hc,<-hx0];exact h0
  have hc1:wr.cell? ⟨q,off+k*5+1,none⟩=some (.int .i64 x1):=by rw[hc,<-hx1];exact h1
  have hc2:wr.cell? ⟨q,off+k*5+2,none⟩=some (.int .i64 x2):=by rw[hc,<-hx2];exact h2
  have hc3:wr.cell? ⟨q,off+k*5+3,none⟩=some (.int .i64 x3):=by rw[hc,<-hx3];exact h3
  have hc4:wr.cell? ⟨q,off+k*5+4,none⟩=some (.slice au nu cu):=by rw[hc];exact h4
  have hu:=Tryz.underlying62;have HX:Hid (ns[k].kind=x0):=hx0;have BN:Hid (Below w.heap.size w (wr.alloc (.cells #[.int .i64 x0,.int .i64 x1,.int .i64 x2,.int .i64 x3,.slice au nu cu] 62))):=HB.out.1.alloc HB.out.1.size _;clear h0 h1 h2 h3 h4 h5 hc hx0 hx1 hx2 hx3 hnu hq
  by_cases hk2:x0=kd
  ·have e1:(x0==kd)=true:=by simpa using hk2
   have HQ:Hid ((λx:Nd=>decide (x.kind=kd)) ns[k]=true):=decide_eq_true (HX.out.trans hk2);clear hk2;go_wp2;go_ret;exact⟨Tk.ret_int ((Nt.findI_at hkl HB.out.2 HQ.out).symm.trans HR.out),BN.out⟩
  have e1:(x0==kd)=false:=by simpa using hk2
  have HQ:Hid (decide (ns[k].kind=kd)=false):=decide_eq_false (by rw[HX.out];exact hk2);clear hk2;go_wp2;go_roundg (gk-1)
  case measure=>omega
  case rel=>
   refine⟨k+1,by omega,by go_num,BN.out, ?_⟩;rw[Tm.take_snoc _ _ hkl,List.any_append,HB.out.2];simp[HQ.out]
theorem Tryz.rone_plain (k a op num m:Int)(sa:Option Addr)(n cap:Nat)(zb:Bool)(w:World)(hk:(k=1/\m=0)∨(k=2/\m=0)∨(k=5/\m=0)∨(k=6/\m=0)∨(k=7/\m=0)∨(k=3/\m=3)∨(k=8/\m=4))
  (hZ:∀W,Calls Tryz.prog 143 #[.agg #[.int .i64 op,.int .i64 num,.slice sa n cap]] W λe w'=>e=.returned (.bool zb)/\Below W.heap.size W w'):
  Calls Tryz.prog 109 #[.agg #[.int .i64 k,.int .i64 a,.int .i64 op,.int .i64 num,.slice sa n cap]] w λe w'=>e=.returned (.bool (decide (0<=a)&&decide (a<=m)&&zb))/\Below w.heap.size w w':=by
 have B0:Hid (Below w.heap.size w (w.alloc (.cells #[.int .i64 k,.int .i64 a,.int .i64 op,.int .i64 num,.slice sa n cap] 62))):=(Below.refl _ w).alloc (Nat.le_refl _) _;have HZ:Hid _:=hZ;clear hZ
 rcases hk with⟨rfl,rfl⟩|⟨rfl,rfl⟩|⟨rfl,rfl⟩|⟨rfl,rfl⟩|⟨rfl,rfl⟩|⟨rfl,rfl⟩|⟨rfl,rfl⟩
 all_goals
  rcases Int.lt_or_le a 0 with h0|h0
  ·have e0:decide (a<0)=true:=decide_eq_true h0
   have e1:decide (0<=a)=false:=decide_eq_false (by omega);rw[e1];clear h0 e1
   go_enter Tryz.func109,Tryz.ntmps109
   go_wp2;go_ret;exact⟨Tk.ret_bool rfl,B0.out⟩
  have e0:decide (a<0)=false:=decide_eq_false (by omega);have e2:decide (0<=a)=true:=decide_eq_true h0;rw[e2];clear e2
  first
  |(by_cases h1:a<=0;rotate_left;exact(by
     have e1:decide (a<=0)=false:=decide_eq_false h1;rw[e1];clear h0 h1
     go_enter Tryz.func109,Tryz.ntmps109
     go_wp2;go_ret
     exact⟨Tk.ret_bool rfl,B0.out⟩)
    have e1:decide (a<=0)=true:=decide_eq_true h1
    rw[e1])
  |(by_cases h1:a<=3;rotate_left;exact(by
     have e1:decide (a<=3)=false:=decide_eq_false h1;rw[e1];clear h0 h1
     go_enter Tryz.func109,Tryz.ntmps109
     go_wp2;go_ret
     exact⟨Tk.ret_bool rfl,B0.out⟩)
    have e1:decide (a<=3)=true:=decide_eq_true h1
    rw[e1])
  |(by_cases h1:a<=4;rotate_left;exact(by
     have e1:decide (a<=4)=false:=decide_eq_false h1;rw[e1];clear h0 h1
     go_enter Tryz.func109,Tryz.ntmps109
     go_wp2;go_ret
     exact⟨Tk.ret_bool rfl,B0.out⟩)
    have e1:decide (a<=4)=true:=decide_eq_true h1
    rw[e1])
  clear h0 h1
  go_enter Tryz.func109,Tryz.ntmps109
  go_wp2_with fail
  refine Calls.mono (HZ.out _) ?_;rintro e W ⟨rfl,hb⟩;have B2:Hid (Below w.heap.size w W):=B0.out.trans (hb.mono B0.out.size);clear hb HZ;go_wp2;go_ret;exact⟨Tk.ret_bool rfl,B2.out⟩
theorem Tryz.rone_other (k a op num:Int)(sa:Option Addr)(n cap:Nat)(w:World)(hk:k<1∨8<k):
  Calls Tryz.prog 109 #[.agg #[.int .i64 k,.int .i64 a,.int .i64 op,.int .i64 num,.slice sa n cap]] w λe w'=>e=.returned (.bool false)/\Below w.heap.size w w':=by
 have B0:Hid (Below w.heap.size w (w.alloc (.cells #[.int .i64 k,.int .i64 a,.int .i64 op,.int .i64 num,.slice sa n cap] 62))):=(Below.refl _ w).alloc (Nat.le_refl _) _
 obtain h1|⟨h1,h2⟩:decide (k<1)=true∨(decide (k<1)=false/\decide (8<k)=true):=by simp;omega
 all_goals
  clear hk
  go_enter Tryz.func109,Tryz.ntmps109
  go_wp2;go_ret;exact⟨rfl,B0.out⟩
theorem Tryz.rone_assign (a op num:Int)(sa:Option Addr)(n cap:Nat)(ob:Bool)(w:World)
  (hO:∀W,Below w.heap.size w W->Calls Tryz.prog 142 #[.agg #[.int .i64 op,.int .i64 num,.slice sa n cap],.int .i64 1] W λe w'=>e=.returned (.bool ob)/\Below W.heap.size W w'):
  Calls Tryz.prog 109 #[.agg #[.int .i64 4,.int .i64 a,.int .i64 op,.int .i64 num,.slice sa n cap]] w λe w'=>e=.returned (.bool (decide (0<=a)&&decide (a<=3)&&ob))/\Below w.heap.size w w':=by
 have A0:Below w.heap.size w (w.alloc (.cells #[.int .i64 4,.int .i64 a,.int .i64 op,.int .i64 num,.slice sa n cap] 62)):=(Below.refl _ w).alloc (Nat.le_refl _) _;have HO:Hid _:=hO _ A0;have B0:Hid _:=A0;clear hO A0
 rcases Int.lt_or_le a 0 with h0|h0
 ·have e0:decide (a<0)=true:=decide_eq_true h0
  have HD:Hid ((decide (0<=a)&&decide (a<=3)&&ob)=false):=by show _=_;rw[decide_eq_false (by omega)];rfl
  rw[HD.out];clear h0 HO
  go_enter Tryz.func109,Tryz.ntmps109
  go_wp2;go_ret;exact⟨rfl,B0.out⟩
 have e0:decide (a<0)=false:=decide_eq_false (by omega)
 by_cases h3:a<4
 ·have e3:decide (a<4)=true:=decide_eq_true h3
  have HD:Hid ((decide (0<=a)&&decide (a<=3)&&ob)=ob):=by show _=_;rw[decide_eq_true h0,decide_eq_true (by omega)];rfl
  rw[HD.out];clear h0 h3
  go_enter Tryz.func109,Tryz.ntmps109
  go_wp2_with fail
  refine Calls.mono HO.out ?_;rintro e W ⟨rfl,hb⟩;have B2:Hid (Below w.heap.size w W):=B0.out.trans (hb.mono B0.out.size);clear hb HO;go_wp2;go_ret;exact⟨Tk.ret_bool rfl,B2.out⟩
 have e3:decide (a<4)=false:=decide_eq_false h3;have HD:Hid ((decide (0<=a)&&decide (a<=3)&&ob)=false):=by show _=_;rw[decide_eq_true h0,decide_eq_false (by omega)];rfl
 rw[HD.out];clear h0 h3 HO
 go_enter Tryz.func109,Tryz.ntmps109
 go_wp2;go_ret;exact⟨rfl,B0.out⟩
theorem Tryz.rone_any (d:Nat)(x:Nd)(v:Value)(w:World)(hT:Tm.Lies w w.heap.size d v x.t)(hsz:x.t.size<=2147483647):
  Calls Tryz.prog 109 #[.agg #[.int .i64 x.kind,.int .i64 x.a,.int .i64 x.t.op,.int .i64 x.t.num,v]] w λe w'=>e=.returned (.bool (Nt.oneB x))/\Below w.heap.size w w':=by
 obtain⟨a,cap,rfl⟩:=hT.shape
 rcases Nt.kinds x.kind with⟨m,hk⟩|hk|hk
 ·rw[Nt.oneB_plain x m hk]
  exact Tryz.rone_plain x.kind x.a x.t.op x.t.num m a x.t.ks.length cap (Nt.zeroB x.t) w hk (λW=>Tryz.rnone_any x.t a cap W)
 ·rw[Nt.oneB_assign x hk,hk]
  exact Tryz.rone_assign x.a x.t.op x.t.num a x.t.ks.length cap (Nt.ofB x.t 1) w (λW hb=>Tryz.rof_any 1 d x.t (.slice a x.t.ks.length cap) W ((hT.below hb).wider hb.size) hsz)
 rw[Nt.oneB_other x hk];exact Tryz.rone_other x.kind x.a x.t.op x.t.num a x.t.ks.length cap w hk
end Go.Proofs
