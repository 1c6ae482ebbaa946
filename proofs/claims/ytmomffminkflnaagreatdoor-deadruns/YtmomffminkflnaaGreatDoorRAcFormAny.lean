import Derived.Test.YtmomffminkflnaaGreatDoorRAcFormed
set_option maxRecDepth 100000
set_option maxHeartbeats 32000000
namespace Go.Proofs
open Go.RowKit Go.Shelf
theorem Ac.formed_1 {T:Ac} (hk:T.kind=1):T.Formed↔T.holdsB=true/\Ac.Same1 T.rest(Ac.zeroOf T.kind)/\T.ks.length=0:=by
 refine⟨λh=> ?_,λh=> .inl⟨hk,h⟩⟩;unfold Ac.Formed at h
 rcases h with h|h|h|h|h|h|h|h|h|h|h|h|h|h|h
 ·exact h.2
 ·exact absurd(hk.symm.trans h.1)(by decide)
 ·exact absurd(hk.symm.trans h.1)(by decide)
 ·exact absurd(hk.symm.trans h.1)(by decide)
 ·exact absurd(hk.symm.trans h.1)(by decide)
 ·exact absurd(hk.symm.trans h.1)(by decide)
 ·exact absurd(hk.symm.trans h.1)(by decide)
 ·exact absurd(hk.symm.trans h.1)(by decide)
 ·exact absurd(hk.symm.trans h.1)(by decide)
 ·exact absurd(hk.symm.trans h.1)(by decide)
 ·exact absurd(hk.symm.trans h.1)(by decide)
 ·exact absurd(hk.symm.trans h.1)(by decide)
 ·exact absurd(hk.symm.trans h.1)(by decide)
 ·exact absurd(hk.symm.trans h.1)(by decide)
 exact absurd(hk.symm.trans h.1)(by decide)
theorem Ac.formed_5 {T:Ac} (hk:T.kind=5):T.Formed↔T.holdsB=true/\(0<=T.node/\T.node<24)/\Ac.Same1 T.rest(Ac.zeroOf T.kind)/\T.ks.length=0:=by
 refine⟨λh=> ?_,λh=> .inr(.inl⟨hk,h⟩)⟩;unfold Ac.Formed at h
 rcases h with h|h|h|h|h|h|h|h|h|h|h|h|h|h|h
 ·exact absurd(hk.symm.trans h.1)(by decide)
 ·exact h.2
 ·exact absurd(hk.symm.trans h.1)(by decide)
 ·exact absurd(hk.symm.trans h.1)(by decide)
 ·exact absurd(hk.symm.trans h.1)(by decide)
 ·exact absurd(hk.symm.trans h.1)(by decide)
 ·exact absurd(hk.symm.trans h.1)(by decide)
 ·exact absurd(hk.symm.trans h.1)(by decide)
 ·exact absurd(hk.symm.trans h.1)(by decide)
 ·exact absurd(hk.symm.trans h.1)(by decide)
 ·exact absurd(hk.symm.trans h.1)(by decide)
 ·exact absurd(hk.symm.trans h.1)(by decide)
 ·exact absurd(hk.symm.trans h.1)(by decide)
 ·exact absurd(hk.symm.trans h.1)(by decide)
 exact absurd(hk.symm.trans h.1)(by decide)
theorem Ac.formed_2 {T:Ac} (hk:T.kind=2):T.Formed↔T.holdsB=true/\(0<=T.node/\T.node<24)/\(0<=T.a/\T.a<4)/\Ac.Same1 T.rest(Ac.zeroOf T.kind)/\T.ks.length=0:=by
 refine⟨λh=> ?_,λh=> .inr(.inr(.inl⟨hk,h⟩))⟩;unfold Ac.Formed at h
 rcases h with h|h|h|h|h|h|h|h|h|h|h|h|h|h|h
 ·exact absurd(hk.symm.trans h.1)(by decide)
 ·exact absurd(hk.symm.trans h.1)(by decide)
 ·exact h.2
 ·exact absurd(hk.symm.trans h.1)(by decide)
 ·exact absurd(hk.symm.trans h.1)(by decide)
 ·exact absurd(hk.symm.trans h.1)(by decide)
 ·exact absurd(hk.symm.trans h.1)(by decide)
 ·exact absurd(hk.symm.trans h.1)(by decide)
 ·exact absurd(hk.symm.trans h.1)(by decide)
 ·exact absurd(hk.symm.trans h.1)(by decide)
 ·exact absurd(hk.symm.trans h.1)(by decide)
 ·exact absurd(hk.symm.trans h.1)(by decide)
 ·exact absurd(hk.symm.trans h.1)(by decide)
 ·exact absurd(hk.symm.trans h.1)(by decide)
 exact absurd(hk.symm.trans h.1)(by decide)
theorem Ac.formed_4 {T:Ac} (hk:T.kind=4):T.Formed↔T.holdsB=true/\(0<=T.node/\T.node<24)/\(0<=T.a/\T.a<4)/\Ac.Same1 T.rest(Ac.zeroOf T.kind)/\T.ks.length=0:=by
 refine⟨λh=> ?_,λh=> .inr(.inr(.inr(.inl⟨hk,h⟩)))⟩;unfold Ac.Formed at h
 rcases h with h|h|h|h|h|h|h|h|h|h|h|h|h|h|h
 ·exact absurd(hk.symm.trans h.1)(by decide)
 ·exact absurd(hk.symm.trans h.1)(by decide)
 ·exact absurd(hk.symm.trans h.1)(by decide)
 ·exact h.2
 ·exact absurd(hk.symm.trans h.1)(by decide)
 ·exact absurd(hk.symm.trans h.1)(by decide)
 ·exact absurd(hk.symm.trans h.1)(by decide)
 ·exact absurd(hk.symm.trans h.1)(by decide)
 ·exact absurd(hk.symm.trans h.1)(by decide)
 ·exact absurd(hk.symm.trans h.1)(by decide)
 ·exact absurd(hk.symm.trans h.1)(by decide)
 ·exact absurd(hk.symm.trans h.1)(by decide)
 ·exact absurd(hk.symm.trans h.1)(by decide)
 ·exact absurd(hk.symm.trans h.1)(by decide)
 exact absurd(hk.symm.trans h.1)(by decide)
theorem Ac.formed_3 {T:Ac} (hk:T.kind=3):T.Formed↔T.holdsB=true/\(0<=T.node/\T.node<24)/\Nt.ofB T.t 1=true/\(0<=T.a/\T.a<4)/\Ac.Same1 T.rest(Ac.zeroOf T.kind)/\T.ks.length=0:=by
 refine⟨λh=> ?_,λh=> .inr(.inr(.inr(.inr(.inl⟨hk,h⟩))))⟩;unfold Ac.Formed at h
 rcases h with h|h|h|h|h|h|h|h|h|h|h|h|h|h|h
 ·exact absurd(hk.symm.trans h.1)(by decide)
 ·exact absurd(hk.symm.trans h.1)(by decide)
 ·exact absurd(hk.symm.trans h.1)(by decide)
 ·exact absurd(hk.symm.trans h.1)(by decide)
 ·exact h.2
 ·exact absurd(hk.symm.trans h.1)(by decide)
 ·exact absurd(hk.symm.trans h.1)(by decide)
 ·exact absurd(hk.symm.trans h.1)(by decide)
 ·exact absurd(hk.symm.trans h.1)(by decide)
 ·exact absurd(hk.symm.trans h.1)(by decide)
 ·exact absurd(hk.symm.trans h.1)(by decide)
 ·exact absurd(hk.symm.trans h.1)(by decide)
 ·exact absurd(hk.symm.trans h.1)(by decide)
 ·exact absurd(hk.symm.trans h.1)(by decide)
 exact absurd(hk.symm.trans h.1)(by decide)
theorem Ac.formed_10 {T:Ac} (hk:T.kind=10):T.Formed↔T.holdsB=true/\(0<=T.node/\T.node<24)/\T.ks.length=1/\(0<=T.a/\T.a<5)/\Ac.Same1 T.rest(Ac.zeroOf T.kind)/\True:=by
 refine⟨λh=> ?_,λh=> .inr(.inr(.inr(.inr(.inr(.inl⟨hk,h⟩)))))⟩;unfold Ac.Formed at h
 rcases h with h|h|h|h|h|h|h|h|h|h|h|h|h|h|h
 ·exact absurd(hk.symm.trans h.1)(by decide)
 ·exact absurd(hk.symm.trans h.1)(by decide)
 ·exact absurd(hk.symm.trans h.1)(by decide)
 ·exact absurd(hk.symm.trans h.1)(by decide)
 ·exact absurd(hk.symm.trans h.1)(by decide)
 ·exact h.2
 ·exact absurd(hk.symm.trans h.1)(by decide)
 ·exact absurd(hk.symm.trans h.1)(by decide)
 ·exact absurd(hk.symm.trans h.1)(by decide)
 ·exact absurd(hk.symm.trans h.1)(by decide)
 ·exact absurd(hk.symm.trans h.1)(by decide)
 ·exact absurd(hk.symm.trans h.1)(by decide)
 ·exact absurd(hk.symm.trans h.1)(by decide)
 ·exact absurd(hk.symm.trans h.1)(by decide)
 exact absurd(hk.symm.trans h.1)(by decide)
theorem Ac.formed_11 {T:Ac} (hk:T.kind=11):T.Formed↔T.holdsB=true/\(0<=T.node/\T.node<24)/\T.ks.length=2/\(0<=T.b/\T.b<(T.cs.length:Int))/\T.cs.length=T.ks.length/\Ac.choiceB T.cs T.a=true/\(0<=T.a/\T.a<(T.cs.length:Int))/\2<=T.ks.length/\Ac.Same1 T.rest(Ac.zeroOf T.kind)/\True:=by
 refine⟨λh=> ?_,λh=> .inr(.inr(.inr(.inr(.inr(.inr(.inl⟨hk,h⟩))))))⟩;unfold Ac.Formed at h
 rcases h with h|h|h|h|h|h|h|h|h|h|h|h|h|h|h
 ·exact absurd(hk.symm.trans h.1)(by decide)
 ·exact absurd(hk.symm.trans h.1)(by decide)
 ·exact absurd(hk.symm.trans h.1)(by decide)
 ·exact absurd(hk.symm.trans h.1)(by decide)
 ·exact absurd(hk.symm.trans h.1)(by decide)
 ·exact absurd(hk.symm.trans h.1)(by decide)
 ·exact h.2
 ·exact absurd(hk.symm.trans h.1)(by decide)
 ·exact absurd(hk.symm.trans h.1)(by decide)
 ·exact absurd(hk.symm.trans h.1)(by decide)
 ·exact absurd(hk.symm.trans h.1)(by decide)
 ·exact absurd(hk.symm.trans h.1)(by decide)
 ·exact absurd(hk.symm.trans h.1)(by decide)
 ·exact absurd(hk.symm.trans h.1)(by decide)
 exact absurd(hk.symm.trans h.1)(by decide)
theorem Ac.formed_8 {T:Ac} (hk:T.kind=8):T.Formed↔T.holdsB=true/\(0<=T.node/\T.node<24)/\T.cs.length=T.ks.length/\Ac.choiceB T.cs T.a=true/\(0<=T.a/\T.a<(T.cs.length:Int))/\2<=T.ks.length/\Ac.Same1 T.rest(Ac.zeroOf T.kind)/\True:=by
 refine⟨λh=> ?_,λh=> .inr(.inr(.inr(.inr(.inr(.inr(.inr(.inl⟨hk,h⟩)))))))⟩;unfold Ac.Formed at h
 rcases h with h|h|h|h|h|h|h|h|h|h|h|h|h|h|h
 ·exact absurd(hk.symm.trans h.1)(by decide)
 ·exact absurd(hk.symm.trans h.1)(by decide)
 ·exact absurd(hk.symm.trans h.1)(by decide)
 ·exact absurd(hk.symm.trans h.1)(by decide)
 ·exact absurd(hk.symm.trans h.1)(by decide)
 ·exact absurd(hk.symm.trans h.1)(by decide)
 ·exact absurd(hk.symm.trans h.1)(by decide)
 ·exact h.2
 ·exact absurd(hk.symm.trans h.1)(by decide)
 ·exact absurd(hk.symm.trans h.1)(by decide)
 ·exact absurd(hk.symm.trans h.1)(by decide)
 ·exact absurd(hk.symm.trans h.1)(by decide)
 ·exact absurd(hk.symm.trans h.1)(by decide)
 ·exact absurd(hk.symm.trans h.1)(by decide)
 exact absurd(hk.symm.trans h.1)(by decide)
theorem Ac.formed_9 {T:Ac} (hk:T.kind=9):T.Formed↔T.holdsB=true/\(0<=T.node/\T.node<24)/\2<=T.ks.length/\Ac.Same1 T.rest(Ac.zeroOf T.kind)/\True:=by
 refine⟨λh=> ?_,λh=> .inr(.inr(.inr(.inr(.inr(.inr(.inr(.inr(.inl⟨hk,h⟩))))))))⟩;unfold Ac.Formed at h
 rcases h with h|h|h|h|h|h|h|h|h|h|h|h|h|h|h
 ·exact absurd(hk.symm.trans h.1)(by decide)
 ·exact absurd(hk.symm.trans h.1)(by decide)
 ·exact absurd(hk.symm.trans h.1)(by decide)
 ·exact absurd(hk.symm.trans h.1)(by decide)
 ·exact absurd(hk.symm.trans h.1)(by decide)
 ·exact absurd(hk.symm.trans h.1)(by decide)
 ·exact absurd(hk.symm.trans h.1)(by decide)
 ·exact absurd(hk.symm.trans h.1)(by decide)
 ·exact h.2
 ·exact absurd(hk.symm.trans h.1)(by decide)
 ·exact absurd(hk.symm.trans h.1)(by decide)
 ·exact absurd(hk.symm.trans h.1)(by decide)
 ·exact absurd(hk.symm.trans h.1)(by decide)
 ·exact absurd(hk.symm.trans h.1)(by decide)
 exact absurd(hk.symm.trans h.1)(by decide)
theorem Ac.formed_6 {T:Ac} (hk:T.kind=6):T.Formed↔T.holdsB=true/\2<=T.ks.length/\Ac.Same1 T.rest(Ac.zeroOf T.kind)/\True:=by
 refine⟨λh=> ?_,λh=> .inr(.inr(.inr(.inr(.inr(.inr(.inr(.inr(.inr(.inl⟨hk,h⟩)))))))))⟩;unfold Ac.Formed at h
 rcases h with h|h|h|h|h|h|h|h|h|h|h|h|h|h|h
 ·exact absurd(hk.symm.trans h.1)(by decide)
 ·exact absurd(hk.symm.trans h.1)(by decide)
 ·exact absurd(hk.symm.trans h.1)(by decide)
 ·exact absurd(hk.symm.trans h.1)(by decide)
 ·exact absurd(hk.symm.trans h.1)(by decide)
 ·exact absurd(hk.symm.trans h.1)(by decide)
 ·exact absurd(hk.symm.trans h.1)(by decide)
 ·exact absurd(hk.symm.trans h.1)(by decide)
 ·exact absurd(hk.symm.trans h.1)(by decide)
 ·exact h.2
 ·exact absurd(hk.symm.trans h.1)(by decide)
 ·exact absurd(hk.symm.trans h.1)(by decide)
 ·exact absurd(hk.symm.trans h.1)(by decide)
 ·exact absurd(hk.symm.trans h.1)(by decide)
 exact absurd(hk.symm.trans h.1)(by decide)
theorem Ac.formed_7 {T:Ac} (hk:T.kind=7):T.Formed↔T.holdsB=true/\2<=T.ks.length/\Ac.Same1 T.rest(Ac.zeroOf T.kind)/\True:=by
 refine⟨λh=> ?_,λh=> .inr(.inr(.inr(.inr(.inr(.inr(.inr(.inr(.inr(.inr(.inl⟨hk,h⟩))))))))))⟩;unfold Ac.Formed at h
 rcases h with h|h|h|h|h|h|h|h|h|h|h|h|h|h|h
 ·exact absurd(hk.symm.trans h.1)(by decide)
 ·exact absurd(hk.symm.trans h.1)(by decide)
 ·exact absurd(hk.symm.trans h.1)(by decide)
 ·exact absurd(hk.symm.trans h.1)(by decide)
 ·exact absurd(hk.symm.trans h.1)(by decide)
 ·exact absurd(hk.symm.trans h.1)(by decide)
 ·exact absurd(hk.symm.trans h.1)(by decide)
 ·exact absurd(hk.symm.trans h.1)(by decide)
 ·exact absurd(hk.symm.trans h.1)(by decide)
 ·exact absurd(hk.symm.trans h.1)(by decide)
 ·exact h.2
 ·exact absurd(hk.symm.trans h.1)(by decide)
 ·exact absurd(hk.symm.trans h.1)(by decide)
 ·exact absurd(hk.symm.trans h.1)(by decide)
 exact absurd(hk.symm.trans h.1)(by decide)
theorem Ac.formed_12a {T:Ac} (hk:T.kind=12)(ha:T.a=3):T.Formed↔T.holdsB=true/\(0<=T.node/\T.node<24)/\2<=T.cs.length/\Ac.choiceB T.cs T.b=true/\(0<=T.b/\T.b<(T.cs.length:Int))/\True/\True/\Ac.Same1 T.rest(Ac.zeroOf T.kind)/\T.ks.length=0:=by
 refine⟨λh=> ?_,λh=> .inr(.inr(.inr(.inr(.inr(.inr(.inr(.inr(.inr(.inr(.inr(.inl⟨hk,ha,h⟩)))))))))))⟩;unfold Ac.Formed at h
 rcases h with h|h|h|h|h|h|h|h|h|h|h|h|h|h|h
 ·exact absurd(hk.symm.trans h.1)(by decide)
 ·exact absurd(hk.symm.trans h.1)(by decide)
 ·exact absurd(hk.symm.trans h.1)(by decide)
 ·exact absurd(hk.symm.trans h.1)(by decide)
 ·exact absurd(hk.symm.trans h.1)(by decide)
 ·exact absurd(hk.symm.trans h.1)(by decide)
 ·exact absurd(hk.symm.trans h.1)(by decide)
 ·exact absurd(hk.symm.trans h.1)(by decide)
 ·exact absurd(hk.symm.trans h.1)(by decide)
 ·exact absurd(hk.symm.trans h.1)(by decide)
 ·exact absurd(hk.symm.trans h.1)(by decide)
 ·exact h.2.2
 ·exact absurd ha h.2.1
 ·exact absurd(hk.symm.trans h.1)(by decide)
 exact absurd(hk.symm.trans h.1)(by decide)
theorem Ac.formed_12b {T:Ac} (hk:T.kind=12)(ha: ¬T.a=3):T.Formed↔T.holdsB=true/\(0<=T.node/\T.node<24)/\1<=T.a/\(0<=T.a/\T.a<5)/\Ac.Same1 T.rest(Ac.zeroOf T.kind)/\T.ks.length=0:=by
 refine⟨λh=> ?_,λh=> .inr(.inr(.inr(.inr(.inr(.inr(.inr(.inr(.inr(.inr(.inr(.inr(.inl⟨hk,ha,h⟩))))))))))))⟩;unfold Ac.Formed at h
 rcases h with h|h|h|h|h|h|h|h|h|h|h|h|h|h|h
 ·exact absurd(hk.symm.trans h.1)(by decide)
 ·exact absurd(hk.symm.trans h.1)(by decide)
 ·exact absurd(hk.symm.trans h.1)(by decide)
 ·exact absurd(hk.symm.trans h.1)(by decide)
 ·exact absurd(hk.symm.trans h.1)(by decide)
 ·exact absurd(hk.symm.trans h.1)(by decide)
 ·exact absurd(hk.symm.trans h.1)(by decide)
 ·exact absurd(hk.symm.trans h.1)(by decide)
 ·exact absurd(hk.symm.trans h.1)(by decide)
 ·exact absurd(hk.symm.trans h.1)(by decide)
 ·exact absurd(hk.symm.trans h.1)(by decide)
 ·exact absurd h.2.1 ha
 ·exact h.2.2
 ·exact absurd(hk.symm.trans h.1)(by decide)
 exact absurd(hk.symm.trans h.1)(by decide)
theorem Ac.formed_13 {T:Ac} (hk:T.kind=13):T.Formed↔T.holdsB=true/\T.linkedB=true/\Ac.Same1 T.rest(Ac.zeroOf T.kind)/\True:=by
 refine⟨λh=> ?_,λh=> .inr(.inr(.inr(.inr(.inr(.inr(.inr(.inr(.inr(.inr(.inr(.inr(.inr(.inl⟨hk,h⟩)))))))))))))⟩;unfold Ac.Formed at h
 rcases h with h|h|h|h|h|h|h|h|h|h|h|h|h|h|h
 ·exact absurd(hk.symm.trans h.1)(by decide)
 ·exact absurd(hk.symm.trans h.1)(by decide)
 ·exact absurd(hk.symm.trans h.1)(by decide)
 ·exact absurd(hk.symm.trans h.1)(by decide)
 ·exact absurd(hk.symm.trans h.1)(by decide)
 ·exact absurd(hk.symm.trans h.1)(by decide)
 ·exact absurd(hk.symm.trans h.1)(by decide)
 ·exact absurd(hk.symm.trans h.1)(by decide)
 ·exact absurd(hk.symm.trans h.1)(by decide)
 ·exact absurd(hk.symm.trans h.1)(by decide)
 ·exact absurd(hk.symm.trans h.1)(by decide)
 ·exact absurd(hk.symm.trans h.1)(by decide)
 ·exact absurd(hk.symm.trans h.1)(by decide)
 ·exact h.2
 exact absurd(hk.symm.trans h.1)(by decide)
theorem Ac.formed_14 {T:Ac} (hk:T.kind=14):T.Formed↔T.holdsB=true/\(Nt.checkN T.ns T.fs).1=0/\Ac.Same1 T.rest(Ac.zeroOf T.kind)/\T.ks.length=0:=by
 refine⟨λh=> ?_,λh=> .inr(.inr(.inr(.inr(.inr(.inr(.inr(.inr(.inr(.inr(.inr(.inr(.inr(.inr(⟨hk,h⟩))))))))))))))⟩;unfold Ac.Formed at h
 rcases h with h|h|h|h|h|h|h|h|h|h|h|h|h|h|h
 ·exact absurd(hk.symm.trans h.1)(by decide)
 ·exact absurd(hk.symm.trans h.1)(by decide)
 ·exact absurd(hk.symm.trans h.1)(by decide)
 ·exact absurd(hk.symm.trans h.1)(by decide)
 ·exact absurd(hk.symm.trans h.1)(by decide)
 ·exact absurd(hk.symm.trans h.1)(by decide)
 ·exact absurd(hk.symm.trans h.1)(by decide)
 ·exact absurd(hk.symm.trans h.1)(by decide)
 ·exact absurd(hk.symm.trans h.1)(by decide)
 ·exact absurd(hk.symm.trans h.1)(by decide)
 ·exact absurd(hk.symm.trans h.1)(by decide)
 ·exact absurd(hk.symm.trans h.1)(by decide)
 ·exact absurd(hk.symm.trans h.1)(by decide)
 ·exact absurd(hk.symm.trans h.1)(by decide)
 exact h.2
theorem Tryz.fm_0(k:Int)(x1 x2 x3 x4 x5 x6 x7 x8 x9 x10 x11:Value)(w:World)(hb:Bool)(hk:k<1∨14<k)(CH0: ∀W,Below w.heap.size w W->Calls Tryz.prog 58 #[.agg #[.int .i64 k,x1,x2,x3,x4,x5,x6,x7,x8,x9,x10,x11]]W λe w'=>e= .returned(.bool hb)/\Below W.heap.size W w'):
  Calls Tryz.prog 48 #[.agg #[.int .i64 k,x1,x2,x3,x4,x5,x6,x7,x8,x9,x10,x11]]w λe w'=>e= .returned(.bool false)/\Below w.heap.size w w':=by
 have e1:(k==1)=false:=by simp;omega
 have e2:(k==2)=false:=by simp;omega
 have e3:(k==3)=false:=by simp;omega
 have e4:(k==4)=false:=by simp;omega
 have e5:(k==5)=false:=by simp;omega
 have e6:(k==6)=false:=by simp;omega
 have e7:(k==7)=false:=by simp;omega
 have e8:(k==8)=false:=by simp;omega
 have e9:(k==9)=false:=by simp;omega
 have e10:(k==10)=false:=by simp;omega
 have e11:(k==11)=false:=by simp;omega
 have e12:(k==12)=false:=by simp;omega
 have e13:(k==13)=false:=by simp;omega
 have e14:(k==14)=false:=by simp;omega
 have CH:Hid _:=CH0;obtain⟨w1,hw1⟩: ∃x,w.alloc(.cells #[.int .i64 k,x1,x2,x3,x4,x5,x6,x7,x8,x9,x10,x11]32)=x:=⟨_,rfl⟩;have A1:Below w.heap.size w w1:=by rw [<-hw1];exact(Below.refl _ w).alloc(Nat.le_refl _)_
 have G1:w1.heap[w.heap.size]? =some(.cells #[.int .i64 k,x1,x2,x3,x4,x5,x6,x7,x8,x9,x10,x11]32(0,0)):=by rw [<-hw1];exact heap_alloc_new w _
 have ca:w1.cell? ⟨w.heap.size,0,none⟩=some(.int .i64 k)/\w1.cell? ⟨w.heap.size,1,none⟩=some x1/\w1.cell? ⟨w.heap.size,2,none⟩=some x2/\w1.cell? ⟨w.heap.size,3,none⟩=some x3/\w1.cell? ⟨w.heap.size,4,none⟩=some x4/\w1.cell? ⟨w.heap.size,5,none⟩=some x5/\w1.cell? ⟨w.heap.size,6,none⟩=some x6/\w1.cell? ⟨w.heap.size,7,none⟩=some x7/\w1.cell? ⟨w.heap.size,8,none⟩=some x8/\w1.cell? ⟨w.heap.size,9,none⟩=some x9/\w1.cell? ⟨w.heap.size,10,none⟩=some x10/\w1.cell? ⟨w.heap.size,11,none⟩=some x11:=by simp [World.cell?,G1]
 obtain⟨m0,m1,m2,m3,m4,m5,m6,m7,m8,m9,m10,m11⟩:=ca;have H1:Hid(w.alloc(.cells #[.int .i64 k,x1,x2,x3,x4,x5,x6,x7,x8,x9,x10,x11]32)=w1):=hw1;have HA:Hid(Below w.heap.size w w1/\w1.heap[w.heap.size]? =some(.cells #[.int .i64 k,x1,x2,x3,x4,x5,x6,x7,x8,x9,x10,x11]32(0,0))):=⟨A1,G1⟩;have hnb:Ac.hasNodeB k=false:=by unfold Ac.hasNodeB;simp;omega
 clear hw1 A1 G1 CH0 hk
 go_enter Tryz.func48,Tryz.ntmps48
 go_upto_region 1 with fail
 rw [H1.out]
 go_wp2_with fail
 refine Calls.mono(CH.out _ HA.out.1) ?_;rintro e W2⟨rfl,hb2⟩;clear H1 CH m0 m1 m2 m3 m4 m5 m6 m7 m8 m9 m10 m11
 go_upto_region 3 with fail
 obtain⟨W3,hW3⟩: ∃z,W2.alloc(.cells #[.bool hb]4)=z:=⟨_,rfl⟩;have hx2:W2.heap[w.heap.size]? =some(.cells #[.int .i64 k,x1,x2,x3,x4,x5,x6,x7,x8,x9,x10,x11]32(0,0)):=(hb2.block _(Array.getElem?_eq_some_iff.1 HA.out.2).1).trans HA.out.2;have hl2:=(Array.getElem?_eq_some_iff.1 hx2).1
 have FW3:Hid(Ak.Fm w w.heap.size W2.heap.size #[.int .i64 k,x1,x2,x3,x4,x5,x6,x7,x8,x9,x10,x11]hb W3):=by
  have b3:Below W2.heap.size W2 W3:=by rw [<-hW3];exact(Below.refl _ W2).alloc(Nat.le_refl _)_
  have b2:Below w.heap.size w W2:=HA.out.1.trans(hb2.mono HA.out.1.size);exact⟨(b3.block _ hl2).trans hx2,by rw [<-hW3];exact heap_alloc_new W2 _,by omega,Nat.le_refl _,b2.size,b2.trans(b3.mono b2.size)⟩
 rw [hW3];have k0:W3.cell? ⟨w.heap.size,0,none⟩=some(.int .i64 k):=by simp [World.cell?,FW3.out.box]
 have CN:Hid _:=Tryz.hasNode_any k W3;rw [hnb]at CN;clear hW3 hx2 hl2 hb2 HA hnb
 go_wp2_with fail
 refine Calls.mono CN.out ?_;rintro e W4⟨rfl,hw4⟩;obtain rfl:=hw4.symm;clear CN;go_wp2;go_ret;exact⟨rfl,FW3.out.bel⟩
theorem Tryz.aformed_any(d e:Nat)(T:Ac)(V:Ac.Vs)(w:World)(hT:Ac.Lies w w.heap.size e d V T)(hF:T.Fit)(hO:Tk.Ops w)(h0:0<w.heap.size):
  Calls Tryz.prog 48 #[.agg(Ac.row T V)]w λe w'=>Ak.Told T.Formed e/\Below w.heap.size w w':=by
 by_cases hr:T.kind<1∨14<T.kind
 ·have hno: ¬T.Formed:=λh=>by
   unfold Ac.Formed at h
   rcases h with h|h|h|h|h|h|h|h|h|h|h|h|h|h|h<;>(have:=h.1;omega)
  have hrow:Ac.row T V= #[.int .i64 T.kind, .int .i64 T.node, .int .i64 T.a, .int .i64 T.b, .int .i64 T.t.op, .int .i64 T.t.num,V.t,V.c,V.k,V.l,V.n,V.f]:=rfl;have CH: ∀W,Below w.heap.size w W->Calls Tryz.prog 58 #[.agg(Ac.row T V)]W λe w'=>e= .returned(.bool T.holdsB)/\Below W.heap.size W w':=λW hb=>Tryz.holds_any d e T V W((hT.below hb).wider hb.size)(by have:=hF.kl;omega);rw [hrow]at CH⊢;exact(Tryz.fm_0 T.kind _ _ _ _ _ _ _ _ _ _ _ w T.holdsB hr CH).mono λe w' h=>⟨by rw [h.1];exact Ak.Told.no hno,h.2⟩
 have hk:T.kind=1∨T.kind=2∨T.kind=3∨T.kind=4∨T.kind=5∨T.kind=6∨T.kind=7∨T.kind=8∨T.kind=9∨T.kind=10∨T.kind=11∨T.kind=12∨T.kind=13∨T.kind=14:=by omega
 rcases hk with hk|hk|hk|hk|hk|hk|hk|hk|hk|hk|hk|hk|hk|hk
 ·exact(Tryz.aformed_1 d e T V w hT hF hO h0 hk).mono λe w' h=>⟨by obtain⟨r,h1,h2⟩:=h.1;exact⟨r,h1,h2.trans(Ac.formed_1 hk).symm⟩,h.2⟩
 ·exact(Tryz.aformed_2 d e T V w hT hF hO h0 hk).mono λe w' h=>⟨by obtain⟨r,h1,h2⟩:=h.1;exact⟨r,h1,h2.trans(Ac.formed_2 hk).symm⟩,h.2⟩
 ·exact(Tryz.aformed_3 d e T V w hT hF hO h0 hk).mono λe w' h=>⟨by obtain⟨r,h1,h2⟩:=h.1;exact⟨r,h1,h2.trans(Ac.formed_3 hk).symm⟩,h.2⟩
 ·exact(Tryz.aformed_4 d e T V w hT hF hO h0 hk).mono λe w' h=>⟨by obtain⟨r,h1,h2⟩:=h.1;exact⟨r,h1,h2.trans(Ac.formed_4 hk).symm⟩,h.2⟩
 ·exact(Tryz.aformed_5 d e T V w hT hF hO h0 hk).mono λe w' h=>⟨by obtain⟨r,h1,h2⟩:=h.1;exact⟨r,h1,h2.trans(Ac.formed_5 hk).symm⟩,h.2⟩
 ·exact(Tryz.aformed_6 d e T V w hT hF hO h0 hk).mono λe w' h=>⟨by obtain⟨r,h1,h2⟩:=h.1;exact⟨r,h1,h2.trans(Ac.formed_6 hk).symm⟩,h.2⟩
 ·exact(Tryz.aformed_7 d e T V w hT hF hO h0 hk).mono λe w' h=>⟨by obtain⟨r,h1,h2⟩:=h.1;exact⟨r,h1,h2.trans(Ac.formed_7 hk).symm⟩,h.2⟩
 ·exact(Tryz.aformed_8 d e T V w hT hF hO h0 hk).mono λe w' h=>⟨by obtain⟨r,h1,h2⟩:=h.1;exact⟨r,h1,h2.trans(Ac.formed_8 hk).symm⟩,h.2⟩
 ·exact(Tryz.aformed_9 d e T V w hT hF hO h0 hk).mono λe w' h=>⟨by obtain⟨r,h1,h2⟩:=h.1;exact⟨r,h1,h2.trans(Ac.formed_9 hk).symm⟩,h.2⟩
 ·exact(Tryz.aformed_10 d e T V w hT hF hO h0 hk).mono λe w' h=>⟨by obtain⟨r,h1,h2⟩:=h.1;exact⟨r,h1,h2.trans(Ac.formed_10 hk).symm⟩,h.2⟩
 ·exact(Tryz.aformed_11 d e T V w hT hF hO h0 hk).mono λe w' h=>⟨by obtain⟨r,h1,h2⟩:=h.1;exact⟨r,h1,h2.trans(Ac.formed_11 hk).symm⟩,h.2⟩
 ·by_cases ha:T.a=3
  ·exact(Tryz.aformed_12a d e T V w hT hF hO h0 hk ha).mono λe w' h=>⟨by obtain⟨r,h1,h2⟩:=h.1;exact⟨r,h1,h2.trans(Ac.formed_12a hk ha).symm⟩,h.2⟩
  exact(Tryz.aformed_12b d e T V w hT hF hO h0 hk ha).mono λe w' h=>⟨by obtain⟨r,h1,h2⟩:=h.1;exact⟨r,h1,h2.trans(Ac.formed_12b hk ha).symm⟩,h.2⟩
 ·exact(Tryz.aformed_13 d e T V w hT hF hO h0 hk).mono λe w' h=>⟨by obtain⟨r,h1,h2⟩:=h.1;exact⟨r,h1,h2.trans(Ac.formed_13 hk).symm⟩,h.2⟩
 exact(Tryz.aformed_14 d e T V w hT hF hO h0 hk).mono λe w' h=>⟨by obtain⟨r,h1,h2⟩:=h.1;exact⟨r,h1,h2.trans(Ac.formed_14 hk).symm⟩,h.2⟩
def Ac.enterS(T:Ac)(bs:List Bool):Bool×List Bool:=if Ac.hasNodeB T.kind=true then(!((bs[T.node.toNat]?).getD true),bs.set T.node.toNat true)else(true,bs)
def Ac.NodeOk(T:Ac):Prop:=Ac.hasNodeB T.kind=true->0<=T.node/\T.node<24
theorem Tryz.twice1_any(k m:Int)(x2 x3 x4 x5 x6 x7 x8 x9 x10 x11:Value)(b:Nat)(bs:List Bool)(w:World)(h:Nt.Bt w b bs)(hl:bs.length=24)(hm:Ac.hasNodeB k=true->0<=m/\m<24):
  Calls Tryz.prog 66 #[.agg #[.int .i64 k, .int .i64 m,x2,x3,x4,x5,x6,x7,x8,x9,x10,x11], .pointer(some⟨b,0,none⟩)]w λe w'=>e= .returned(.bool(if Ac.hasNodeB k=true then !((bs[m.toNat]?).getD true)else true))/\Nt.Bt w' b(if Ac.hasNodeB k=true then bs.set m.toNat true else bs)/\Tk.But(λx=>x=b)w w':=by
 obtain⟨w1,hw1⟩: ∃x,w.alloc(.cells #[.int .i64 k, .int .i64 m,x2,x3,x4,x5,x6,x7,x8,x9,x10,x11]32)=x:=⟨_,rfl⟩;have A1:Below w.heap.size w w1:=by rw [<-hw1];exact(Below.refl _ w).alloc(Nat.le_refl _)_
 have G1:w1.heap[w.heap.size]? =some(.cells #[.int .i64 k, .int .i64 m,x2,x3,x4,x5,x6,x7,x8,x9,x10,x11]32(0,0)):=by rw [<-hw1];exact heap_alloc_new w _
 have c0:w1.cell? ⟨w.heap.size,0,none⟩=some(.int .i64 k):=by simp [World.cell?,G1]
 have c1:w1.cell? ⟨w.heap.size,1,none⟩=some(.int .i64 m):=by simp [World.cell?,G1]
 have h1:Nt.Bt w1 b bs:=h.keep(A1.block b h.lt);have H1:Hid(w.alloc(.cells #[.int .i64 k, .int .i64 m,x2,x3,x4,x5,x6,x7,x8,x9,x10,x11]32)=w1):=hw1;have CN:Hid _:=Tryz.hasNode_any k w1;obtain⟨q,hq⟩: ∃q,Ac.hasNodeB k=q:=⟨_,rfl⟩;rw [hq]at CN hm⊢;have HA:Hid(Below w.heap.size w w1/\Nt.Bt w1 b bs):=⟨A1,h1⟩
 cases q with
 |false=>
  clear hw1 A1 G1 h1 h hm hq hl
  go_enter Tryz.func66,Tryz.ntmps66
  go_upto_region 1 with fail
  rw [H1.out]
  go_wp2_with fail
  refine Calls.mono CN.out ?_;rintro e W2⟨rfl,hw2⟩;obtain rfl:=hw2.symm;go_wp2;go_ret;exact⟨rfl,HA.out.2,Tk.But.of_below HA.out.1⟩
 |true=>
  obtain⟨i,rfl⟩: ∃i:Nat,m=i:=⟨m.toNat,by have:=hm rfl;omega⟩;have hi:i<24:=by have:=hm rfl;omega
  have hx:bs[i]? =some(bs[i]'(by omega)):=List.getElem?_eq_getElem(by omega);obtain⟨x,hxx⟩: ∃x,bs[i]'(by omega)=x:=⟨_,rfl⟩;rw [hxx]at hx;have d0:=h1.cell i x hx;have f0:=h1.frozen i;have hi':(i:Int)<24:=by omega
  have hi0:(0:Int)<=i:=by omega
  have hlt:b≠w.heap.size:=by have:=h.lt;omega
  have c1':(w1.setCell⟨b,i,none⟩(.bool true)).cell? ⟨w.heap.size,1,none⟩=some(.int .i64(i:Int)):=by
   rw [World.cell?_of_block(w:=w1)(Below.heap_setCell _ _ _ _(Ne.symm hlt))];exact c1
  have HP:Hid(Nt.Bt(w1.setCell⟨b,i,none⟩(.bool true))b(bs.set i true)/\Tk.But(λk=>k=b)w(w1.setCell⟨b,i,none⟩(.bool true))/\(bs[i]?).getD true=x):=⟨h1.put i true,(Tk.But.of_below A1).setCell(E:=λk=>k=b)(p:=⟨b,i,none⟩)rfl _,by rw [hx];rfl⟩;clear hw1 A1 G1 h1 h hm hq hl hx hxx
  go_enter Tryz.func66,Tryz.ntmps66
  go_upto_region 1 with fail
  rw [H1.out]
  go_wp2_with fail
  refine Calls.mono CN.out ?_;rintro e W2⟨rfl,hw2⟩;obtain rfl:=hw2.symm;go_wp2;go_ret;exact⟨by rw [HP.out.2.2];rfl,HP.out.1,HP.out.2.1⟩
theorem Ak.stepped_twice(B e b bw:Nat)(hB:B<=b)(hne:b≠bw):Ak.Stepped Ac.enterS Ac.NodeOk 66 #[.pointer(some⟨b,0,none⟩)](λbs W=>Nt.Bt W b bs/\bs.length=24)(λk=>k=b)B e bw where
 enters:=enters_of Tryz.func66(by kernel_rfl)rfl
 calls:=λs W d T V hP hI _ _=>by
  have h:=Tryz.twice1_any T.kind T.node(.int .i64 T.a)(.int .i64 T.b)(.int .i64 T.t.op)(.int .i64 T.t.num)V.t V.c V.k V.l V.n V.f b s W hI.1 hI.2 hP;refine Calls.mono h λe w' q=> ?_;unfold Ac.enterS;refine⟨?_, ?_,q.2.2⟩
  ·rw [q.1];congr 2;split<;>rfl
  have h2:=q.2.1
  split at h2
  ·next hh=>rw [if_pos hh];exact⟨h2,by simp [hI.2]⟩
  next hh=>rw [if_neg hh];exact⟨h2,hI.2⟩
 keeps:=λs W W' hI hb=>⟨hI.1.keep(hb.block b hI.1.lt hne),hI.2⟩
 above:=λk hk=>hk▸hB
 not_bw:=λh=>hne h.symm
def Ac.twiceB(T:Ac):Bool:= !(T.go Ac.enterS(List.replicate 24 false)).1
theorem Tryz.hasTwice_any(d e:Nat)(T:Ac)(V:Ac.Vs)(w:World)(hT:Ac.Lies w w.heap.size e d V T)(h0:0<w.heap.size)(hsz:T.size<=2147483647)(hdp:T.depth<=1000)(hP:T.All Ac.NodeOk):
  Calls Tryz.prog 49 #[.agg(Ac.row T V)]w λe w'=>e= .returned(.bool T.twiceB)/\Below w.heap.size w w':=by
 obtain⟨x0,x1,x2,x3,x4,x5,x6,x7,x8,x9,x10,x11,hrow⟩: ∃x0 x1 x2 x3 x4 x5 x6 x7 x8 x9 x10 x11,Ac.row T V= #[x0,x1,x2,x3,x4,x5,x6,x7,x8,x9,x10,x11]:=⟨_,_,_,_,_,_,_,_,_,_,_,_,rfl⟩;rw [hrow];obtain⟨w1,hw1⟩: ∃x,w.alloc(.cells #[x0,x1,x2,x3,x4,x5,x6,x7,x8,x9,x10,x11]32)=x:=⟨_,rfl⟩;obtain⟨w2,hw2⟩: ∃x,w1.alloc(.cells #[.bool false, .bool false, .bool false, .bool false, .bool false, .bool false, .bool false, .bool false, .bool false, .bool false, .bool false, .bool false, .bool false, .bool false, .bool false, .bool false, .bool false, .bool false, .bool false, .bool false, .bool false, .bool false, .bool false, .bool false]116)=x:=⟨_,rfl⟩;have A1:Below w.heap.size w w1:=by rw [<-hw1];exact(Below.refl _ w).alloc(Nat.le_refl _)_
 have G1:w1.heap[w.heap.size]? =some(.cells #[x0,x1,x2,x3,x4,x5,x6,x7,x8,x9,x10,x11]32(0,0)):=by rw [<-hw1];exact heap_alloc_new w _
 have l1:=(Array.getElem?_eq_some_iff.1 G1).1;have A2:Below w1.heap.size w1 w2:=by rw [<-hw2];exact(Below.refl _ w1).alloc(Nat.le_refl _)_
 have G2:w2.heap[w.heap.size]? =some(.cells #[x0,x1,x2,x3,x4,x5,x6,x7,x8,x9,x10,x11]32(0,0)):=(A2.block _ l1).trans G1
 have hBt:Nt.Bt w2 w1.heap.size(List.replicate 24 false):=by
  show w2.heap[w1.heap.size]? =some(.cells #[.bool false, .bool false, .bool false, .bool false, .bool false, .bool false, .bool false, .bool false, .bool false, .bool false, .bool false, .bool false, .bool false, .bool false, .bool false, .bool false, .bool false, .bool false, .bool false, .bool false, .bool false, .bool false, .bool false, .bool false]116(0,0));rw [<-hw2];exact heap_alloc_new w1 _
 have l2:=hBt.lt;have B2:Below w.heap.size w w2:=A1.trans(A2.mono A1.size);have cc:w2.cell? ⟨w.heap.size,0,none⟩=some x0/\w2.cell? ⟨w.heap.size,1,none⟩=some x1/\w2.cell? ⟨w.heap.size,2,none⟩=some x2/\w2.cell? ⟨w.heap.size,3,none⟩=some x3/\w2.cell? ⟨w.heap.size,4,none⟩=some x4/\w2.cell? ⟨w.heap.size,5,none⟩=some x5/\w2.cell? ⟨w.heap.size,6,none⟩=some x6/\w2.cell? ⟨w.heap.size,7,none⟩=some x7/\w2.cell? ⟨w.heap.size,8,none⟩=some x8/\w2.cell? ⟨w.heap.size,9,none⟩=some x9/\w2.cell? ⟨w.heap.size,10,none⟩=some x10/\w2.cell? ⟨w.heap.size,11,none⟩=some x11:=by simp [World.cell?,G2]
 obtain⟨m0,m1,m2,m3,m4,m5,m6,m7,m8,m9,m10,m11⟩:=cc;have key:=Tryz.athrough_any(step:=Ac.enterS)(P:=Ac.NodeOk)(g:=66)(lb:= #[.pointer(some⟨w1.heap.size,0,none⟩)])(Inv:=λbs W=>Nt.Bt W w1.heap.size bs/\bs.length=24)(E:=λk=>k=w1.heap.size)(B:=w.heap.size)(e:=e)d(List.replicate 24 false)T V w2(λbw hbw=>Ak.stepped_twice w.heap.size e w1.heap.size bw(by omega)(by omega))(hT.below B2)h0 B2.size⟨hBt,by simp⟩(λk hk=>by omega)hsz hP;rw [hrow]at key;have HC:Hid _:=key;obtain⟨R,hR⟩: ∃b,T.twiceB=b:=⟨_,rfl⟩;rw [hR];have HR:Hid(T.twiceB=R/\T.depth<=1000/\T.size<=2147483647/\Below w.heap.size w w2/\w.heap.size<w1.heap.size):=⟨hR,hdp,hsz,B2,l1⟩;have H1:Hid(w.alloc(.cells #[x0,x1,x2,x3,x4,x5,x6,x7,x8,x9,x10,x11]32)=w1):=hw1;have H2:Hid(w1.alloc(.cells #[.bool false, .bool false, .bool false, .bool false, .bool false, .bool false, .bool false, .bool false, .bool false, .bool false, .bool false, .bool false, .bool false, .bool false, .bool false, .bool false, .bool false, .bool false, .bool false, .bool false, .bool false, .bool false, .bool false, .bool false]116)=w2):=hw2;clear key hT hP hrow hw1 hw2 A1 G1 A2 G2 hBt l1 l2 B2 hR hsz hdp
 go_enter Tryz.func49,Tryz.ntmps49
 go_upto_region 1 with fail
 rw [H1.out]
 go_upto_region 2 with fail
 rw [H2.out]
 go_wp2_with fail
 refine Calls.mono HC.out ?_;rintro e W3⟨b,rfl,hbt,hend⟩
 have H3:Hid(R= !b/\Below w.heap.size w W3):=by
  have h:=HR.out;refine⟨?_,h.2.2.2.1.trans(hbt.below h.2.2.2.1.size(λk hk=>by have:=h.2.2.2.2;omega))⟩
  rcases hend with⟨_,_,_,h4⟩|⟨h4,_⟩
  ·rw [<-h.1,h4];rfl
  exact absurd⟨h.2.1,h.2.2.1⟩h4
 clear hbt hend HC;go_wp2;go_ret;exact⟨Tk.ret_bool H3.out.1.symm,H3.out.2⟩
noncomputable def Ac.formB(T:Ac):Bool:= @decide T.Formed(Classical.propDecidable _)
noncomputable def Ac.stepF(T:Ac)(s:Unit):Bool×Unit:=(T.formB,s)
theorem Ac.formB_iff(T:Ac):T.formB=true↔T.Formed:=⟨λh=> @of_decide_eq_true _(Classical.propDecidable _)h,λh=> @decide_eq_true _(Classical.propDecidable _)h⟩
theorem Ac.told_form {T:Ac} {e:Ending} (h:Ak.Told T.Formed e):e= .returned(.bool T.formB):=by
 obtain⟨r,h1,h2⟩:=h;rw [h1]
 congr 2
 rw [Bool.eq_iff_iff,h2,Ac.formB_iff]
mutual
theorem Ac.go_form: ∀(T:Ac)(s:Unit),(T.go Ac.stepF s).1=true->T.All Ac.Formed
 | .mk k n a b t c ks l x y,s,h=>by
   rw [Ac.go]at h
   split at h
   ·next h1=>exact⟨(Ac.formB_iff _).1 h1,Ac.goes_form ks _ h⟩
   simp at h
theorem Ac.goes_form: ∀(l:List Ac)(s:Unit),(Ac.goes Ac.stepF l s).1=true->Ac.Alls Ac.Formed l
 | [],_,_=>trivial
 |k::r,s,h=>by
  rw [Ac.goes]at h
  split at h
  ·next h1=>exact⟨Ac.go_form k s h1,Ac.goes_form r _ h⟩
  simp at h
end
mutual
theorem Ac.all_mono {P Q:Ac->Prop} (h: ∀T,P T->Q T): ∀T:Ac,T.All P->T.All Q
 | .mk _ _ _ _ _ _ ks _ _ _,hh=>⟨h _ hh.1,Ac.alls_mono h ks hh.2⟩
theorem Ac.alls_mono {P Q:Ac->Prop} (h: ∀T,P T->Q T): ∀l:List Ac,Ac.Alls P l->Ac.Alls Q l
 | [],_=>trivial
 |k::r,hh=>⟨Ac.all_mono h k hh.1,Ac.alls_mono h r hh.2⟩
end
theorem Ac.formed_node(T:Ac)(h:T.Formed):T.NodeOk:=by
 intro hn;unfold Ac.Formed at h
 rcases h with h|h|h|h|h|h|h|h|h|h|h|h|h|h|h
 ·rw [h.1]at hn;simp [Ac.hasNodeB]at hn
 ·exact h.2.2.1
 ·exact h.2.2.1
 ·exact h.2.2.1
 ·exact h.2.2.1
 ·exact h.2.2.1
 ·exact h.2.2.1
 ·exact h.2.2.1
 ·exact h.2.2.1
 ·rw [h.1]at hn;simp [Ac.hasNodeB]at hn
 ·rw [h.1]at hn;simp [Ac.hasNodeB]at hn
 ·exact h.2.2.2.1
 ·exact h.2.2.2.1
 ·rw [h.1]at hn;simp [Ac.hasNodeB]at hn
 rw [h.1]at hn;simp [Ac.hasNodeB]at hn
theorem Ak.stepped_form(B e bw:Nat)(hB:0<B)(hbw:0<bw):Ak.Stepped Ac.stepF Ac.Fit 48 #[](λ_ W=>Tk.Ops W)(λ_=>False)B e bw where
 enters:=enters_of Tryz.func48(by kernel_rfl)rfl
 calls:=λs W d T V hF hI hBW hT=>(Tryz.aformed_any d e T V W(hT.wider hBW)hF hI(by omega)).mono λe w' h=>⟨Ac.told_form h.1,hI.below h.2 hI.lt,Tk.But.of_below h.2⟩
 keeps:=λ_ W W' hI hb=>hI.keep(hb.block _ hI.lt(by omega))
 above:=λk hk=>hk.elim
 not_bw:=λh=>h
noncomputable def Ac.checkC(T:Ac):Int:=if T.tooB=true then 2 else if T.kind=10∨T.kind=12∨(T.go Ac.stepF()).1=false then 4 else if T.twiceB=true then 8 else 0
theorem Tryz.aCheck_any(d e:Nat)(T:Ac)(V:Ac.Vs)(w:World)(hT:Ac.Lies w w.heap.size e d V T)(h0:0<w.heap.size)(hsz:T.size<=2147483647)(hF:T.All Ac.Fit)(hO:Tk.Ops w):
  Calls Tryz.prog 38 #[.agg(Ac.row T V)]w λe w'=>e= .returned(.int .i64 T.checkC)/\Below w.heap.size w w':=by
 have CT: ∀W,Below w.heap.size w W->Calls Tryz.prog 46 #[.agg(Ac.row T V)]W λe w'=>e= .returned(.bool T.tooB)/\Below W.heap.size W w':=λW hb=>Tryz.atooLarge_any d e T V W((hT.below hb).wider hb.size)(by have:=hb.size;omega)hsz
 have CF:T.depth<=1000-> ∀W,Below w.heap.size w W->Calls Tryz.prog 47 #[.agg(Ac.row T V), .func(.func 48) #[] #[]]W λe w'=>e= .returned(.bool(T.go Ac.stepF()).1)/\Below W.heap.size W w':=λhdp W hb=>by
  have key:=Tryz.athrough_any(step:=Ac.stepF)(P:=Ac.Fit)(g:=48)(lb:= #[])(Inv:=λ_ W=>Tk.Ops W)(E:=λ_=>False)(B:=w.heap.size)(e:=e)d()T V W(λbw hbw=>Ak.stepped_form w.heap.size e bw h0(by have:=hO.lt;have:=hb.size;omega))(hT.below hb)h0 hb.size(hO.below hb hO.lt)(λk hk=>hk.elim)hsz hF;refine key.mono λe w'⟨b,h1,h2,h3⟩=> ?_
  rcases h3 with⟨_,_,_,h4⟩|⟨h4,_⟩
  ·exact⟨by rw [h1,h4],h2.below(Nat.le_refl _)(λk _ h=>h)⟩
  exact absurd⟨hdp,hsz⟩h4
 have CW:T.depth<=1000->(T.go Ac.stepF()).1=true-> ∀W,Below w.heap.size w W->Calls Tryz.prog 49 #[.agg(Ac.row T V)]W λe w'=>e= .returned(.bool T.twiceB)/\Below W.heap.size W w':=λhdp hg W hb=>
  Tryz.hasTwice_any d e T V W((hT.below hb).wider hb.size)(by have:=hb.size;omega)hsz hdp(Ac.all_mono Ac.formed_node T(Ac.go_form T()hg))
 have htoo:T.tooB=false->T.depth<=1000:=λh=>by
  unfold Ac.tooB at h;rw [Bool.not_eq_false',decide_eq_true_eq]at h;omega
 obtain⟨R,hR⟩: ∃c,T.checkC=c:=⟨_,rfl⟩;have HR:Hid(R=if T.tooB=true then 2 else if T.kind=10∨T.kind=12∨(T.go Ac.stepF()).1=false then 4 else if T.twiceB=true then 8 else 0):=by show _=_;rw [<-hR];rfl
 obtain⟨k,hk⟩: ∃k,T.kind=k:=⟨_,rfl⟩;obtain⟨x1,x2,x3,x4,x5,x6,x7,x8,x9,x10,x11,hrow⟩: ∃x1 x2 x3 x4 x5 x6 x7 x8 x9 x10 x11,Ac.row T V= #[.int .i64 k,x1,x2,x3,x4,x5,x6,x7,x8,x9,x10,x11]:=⟨_,_,_,_,_,_,_,_,_,_,_,by unfold Ac.row;rw [hk]⟩;rw [hrow]at CT CF CW;rw [hrow,hR];rw [hk]at HR;obtain⟨b0,hb0⟩: ∃b,T.tooB=b:=⟨_,rfl⟩;obtain⟨b1,hb1⟩: ∃b,(T.go Ac.stepF()).1=b:=⟨_,rfl⟩;obtain⟨b2,hb2⟩: ∃b,T.twiceB=b:=⟨_,rfl⟩;rw [hb0]at CT htoo HR;rw [hb1]at CF CW HR;rw [hb2]at CW HR;obtain⟨w1,hw1⟩: ∃x,w.alloc(.cells #[.int .i64 k,x1,x2,x3,x4,x5,x6,x7,x8,x9,x10,x11]32)=x:=⟨_,rfl⟩;have A1:Below w.heap.size w w1:=by rw [<-hw1];exact(Below.refl _ w).alloc(Nat.le_refl _)_
 have G1:w1.heap[w.heap.size]? =some(.cells #[.int .i64 k,x1,x2,x3,x4,x5,x6,x7,x8,x9,x10,x11]32(0,0)):=by rw [<-hw1];exact heap_alloc_new w _
 have cA: ∀W,Below w1.heap.size w1 W->W.cell? ⟨w.heap.size,0,none⟩=some(.int .i64 k)/\W.cell? ⟨w.heap.size,1,none⟩=some x1/\W.cell? ⟨w.heap.size,2,none⟩=some x2/\W.cell? ⟨w.heap.size,3,none⟩=some x3/\W.cell? ⟨w.heap.size,4,none⟩=some x4/\W.cell? ⟨w.heap.size,5,none⟩=some x5/\W.cell? ⟨w.heap.size,6,none⟩=some x6/\W.cell? ⟨w.heap.size,7,none⟩=some x7/\W.cell? ⟨w.heap.size,8,none⟩=some x8/\W.cell? ⟨w.heap.size,9,none⟩=some x9/\W.cell? ⟨w.heap.size,10,none⟩=some x10/\W.cell? ⟨w.heap.size,11,none⟩=some x11:=λW hb=>by
  have g1:=(hb.block _(Array.getElem?_eq_some_iff.1 G1).1).trans G1;simp [World.cell?,g1]
 have HCA:Hid _:=cA;have HCT:Hid _:=CT;have HCF:Hid _:=CF;have HCW:Hid _:=CW;have HTO:Hid _:=htoo;have HA:Hid(Below w.heap.size w w1/\ ∀W,Below w1.heap.size w1 W->Below w.heap.size w W):=⟨A1,λW hb=>A1.trans(hb.mono A1.size)⟩;have H1:Hid(w.alloc(.cells #[.int .i64 k,x1,x2,x3,x4,x5,x6,x7,x8,x9,x10,x11]32)=w1):=hw1;obtain⟨m0,m1,m2,m3,m4,m5,m6,m7,m8,m9,m10,m11⟩:=cA w1(Below.refl _ _);clear CT CF CW htoo hR hk hrow hb0 hb1 hb2 hw1 A1 G1 cA hT hsz hF hO h0
 go_enter Tryz.func38,Tryz.ntmps38
 go_upto_region 1 with fail
 rw [H1.out]
 go_wp2_with fail
 refine Calls.mono(HCT.out _ HA.out.1) ?_;rintro e W2⟨rfl,hbe2⟩;have B2:Hid(Below w1.heap.size w1 W2):=hbe2;clear hbe2 m0 m1 m2 m3 m4 m5 m6 m7 m8 m9 m10 m11 H1 HCT
 cases b0 with
 |true=>
  go_wp2;go_ret;exact⟨by rw [HR.out];rfl,HA.out.2 _ B2.out⟩
 |false=>
 have hdp:=HTO.out rfl;have HDP:Hid(T.depth<=1000):=hdp;clear hdp HTO;obtain⟨m0,m1,m2,m3,m4,m5,m6,m7,m8,m9,m10,m11⟩:=HCA.out W2 B2.out
 by_cases q1:k=10
 ·subst q1
  clear m1 m2 m3 m4 m5 m6 m7 m8 m9 m10 m11;go_wp2;go_ret;exact⟨by rw [HR.out];rfl,HA.out.2 _ B2.out⟩
 have e1:(k==10)=false:=by simpa using q1
 by_cases q2:k=12
 ·subst q2
  clear m1 m2 m3 m4 m5 m6 m7 m8 m9 m10 m11 q1 e1;go_wp2;go_ret;exact⟨by rw [HR.out];rfl,HA.out.2 _ B2.out⟩
 have e2:(k==12)=false:=by simpa using q2
 have HK:Hid(¬k=10/\ ¬k=12):=⟨q1,q2⟩;clear q1 q2
 go_wp2_with fail
 refine Calls.mono(HCF.out HDP.out _(HA.out.2 _ B2.out)) ?_;rintro e W3⟨rfl,hbe3⟩;have B3:Hid(Below w1.heap.size w1 W3):=B2.out.trans(hbe3.mono B2.out.size);clear hbe3 m0 m1 m2 m3 m4 m5 m6 m7 m8 m9 m10 m11 HCF
 cases b1 with
 |false=>
  go_wp2;go_ret;exact⟨by rw [HR.out,if_neg(by decide),if_pos(.inr(.inr(by first|rfl|trivial)))];rfl,HA.out.2 _ B3.out⟩
 |true=>
 obtain⟨m0,m1,m2,m3,m4,m5,m6,m7,m8,m9,m10,m11⟩:=HCA.out W3 B3.out
 go_wp2_with fail
 refine Calls.mono(HCW.out HDP.out(by first|rfl|trivial)_(HA.out.2 _ B3.out)) ?_;rintro e W4⟨rfl,hbe4⟩;have B4:Hid(Below w1.heap.size w1 W4):=B3.out.trans(hbe4.mono B3.out.size);clear hbe4 m0 m1 m2 m3 m4 m5 m6 m7 m8 m9 m10 m11 HCW
 have HRR:Hid(R=if b2=true then 8 else 0):=by
  show _=_;rw [HR.out,if_neg(by decide),if_neg(by rintro(h|h|h);exact HK.out.1 h;exact HK.out.2 h;cases h)]
 cases b2 with
 |true=>
  go_wp2;go_ret;exact⟨by rw [HRR.out];rfl,HA.out.2 _ B4.out⟩
 |false=>
  go_wp2;go_ret;exact⟨by rw [HRR.out];rfl,HA.out.2 _ B4.out⟩
end Go.Proofs
namespace Go.Proofs
namespace Dd
def kkOf(T:Ac):List(Int×Int):=T.ks.map λx=>(x.kind,x.a)
theorem kkOf_length(T:Ac):(kkOf T).length=T.ks.length:=by simp [kkOf]
theorem kkOf_get(T:Ac)(k:Nat)(h:k<T.ks.length):((kkOf T)[k]?).getD(0,0)=(T.ks[k].kind,T.ks[k].a):=by simp [kkOf,h]
theorem gateB_kk(T:Ac)(k:Nat)(h:k<T.ks.length):gateB(kkOf T)k=decide(T.ks[k].kind=12):=by unfold gateB;rw [kkOf_get T k h]
theorem doesI_kk(T:Ac)(k:Nat)(h:k<T.ks.length):doesI(kkOf T)k=T.ks[k].a:=by unfold doesI;rw [kkOf_get T k h]
theorem cover: ∀(n:Nat)(ls:List(Int×Int)),(∀i:Nat,i<n->1<=ls.countP λl=>decide(l.2=(i:Int)))->n<=ls.countP λl=>decide(0<=l.2/\l.2<(n:Int))
 |0,_,_=>Nat.zero_le _
 |n+1,ls,h=>by
  have ih:=cover n ls λi hi=>h i(by omega);have h1:=h n(by omega)
  have h2: ∀l:List(Int×Int),(l.countP λl=>decide(0<=l.2/\l.2<(n:Int)))+(l.countP λl=>decide(l.2=(n:Int)))<=l.countP λl=>decide(0<=l.2/\l.2<((n+1:Nat):Int)):=by
   intro l
   induction l with
   |nil=>simp
   |cons x r ihr=>
    rw [List.countP_cons,List.countP_cons,List.countP_cons]
    by_cases a:x.2=(n:Int)
    ·rw [decide_eq_false(show¬(0<=x.2/\x.2<(n:Int))by omega),decide_eq_true a,decide_eq_true(show 0<=x.2/\x.2<((n+1:Nat):Int)by omega),if_pos rfl,if_neg(by decide)]
     omega
    by_cases b:0<=x.2/\x.2<(n:Int)
    ·rw [decide_eq_true b,decide_eq_false a,decide_eq_true(show 0<=x.2/\x.2<((n+1:Nat):Int)by omega),if_pos rfl,if_neg(by decide)]
     omega
    rw [decide_eq_false b,decide_eq_false a,decide_eq_false(show¬(0<=x.2/\x.2<((n+1:Nat):Int))by omega),if_neg(by decide)];omega
  have:=h2 ls;omega
structure Right(T:Ac):Prop where
 web:Web T.ls(kkOf T)
 free: ∃rk,Free T.ls rk
 tos: ∀i(h:i<T.ls.length),-1<=T.ls[i].2/\T.ls[i].2<T.ks.length
 ins: ∀k,k<T.ks.length->1<=T.ls.countP λl=>decide(l.2=(k:Int))
 outs: ∀k(h:k<T.ks.length),T.ks[k].kind=12->T.ks[k].a=3->(T.ls.countP λl=>decide(l.1=(k:Int)))=T.ks[k].cs.length
 last:(T.ls.countP λl=>decide(l.2= -1))=1
 first:(T.ls.countP λl=>decide(l.1= -1))=1
 kids:0<T.ks.length
theorem right_of {T:Ac} (h:T.linkedB=true):Right T:=by
 unfold Ac.linkedB at h;rw [Bool.and_eq_true,Bool.and_eq_true,Bool.and_eq_true,Bool.and_eq_true]at h;obtain⟨⟨⟨⟨h1,h2⟩,h3⟩,h4⟩,h5⟩:=h;have h2:=of_decide_eq_true h2;have hin: ∀l∈T.ls,-1<=l.1/\ -1<=l.2/\l.1<T.ks.length/\l.2<T.ks.length:=λl hl=>of_decide_eq_true(List.all_eq_true.1 h3 l hl)
 have hj: ∀i,i<T.ks.length+1-> ∀k,T.around[i]? =some k->Ac.joinedB k.kind k.a k.cs.length((T.ls.countP λl=>decide(l.2+1=(i:Int)):Nat):Int)((T.ls.countP λl=>decide(l.1+1=(i:Int)):Nat):Int)=true:=λi hi k hk=>by
  have:=List.all_eq_true.1 h4 i(List.mem_range.2 hi);unfold Ac.joinedAt at this;rw [hk,Ac.insL_at _ _ _ hi,Ac.outsL_at _ _ _ hi]at this;exact this
 have cvt: ∀(f:Int×Int->Int)(k:Nat),(T.ls.countP λl=>decide(f l+1=((k+1:Nat):Int)))=T.ls.countP λl=>decide(f l=(k:Int)):=λf k=>by
  congr 1
  funext l
  by_cases e:f l=(k:Int)
  ·rw [decide_eq_true e,decide_eq_true(by omega)]
  rw [decide_eq_false e,decide_eq_false(by omega)]
 have cvo: ∀(f:Int×Int->Int),(T.ls.countP λl=>decide(f l+1=((0:Nat):Int)))=T.ls.countP λl=>decide(f l= -1):=λf=>by
  congr 1
  funext l
  by_cases e:f l= -1
  ·rw [decide_eq_true e,decide_eq_true(by omega)]
  rw [decide_eq_false e,decide_eq_false(by omega)]
 have hkid: ∀k(h:k<T.ks.length),Ac.joinedB T.ks[k].kind T.ks[k].a T.ks[k].cs.length((T.ls.countP λl=>decide(l.2=(k:Int)):Nat):Int)((T.ls.countP λl=>decide(l.1=(k:Int)):Nat):Int)=true:=λk hk=>by
  have:=hj(k+1)(by omega)T.ks[k](by simp [Ac.around,hk]);rw [cvt(λl=>l.2)k,cvt(λl=>l.1)k]at this;exact this
 have hout:=hj 0(by omega)_(by simp [Ac.around];rfl);rw [cvo(λl=>l.2),cvo(λl=>l.1)]at hout
 have hout:((T.ls.countP λl=>decide(l.2= -1):Nat):Int)=1/\((T.ls.countP λl=>decide(l.1= -1):Nat):Int)=1:=by
  unfold Ac.joinedB at hout;rw [if_neg(by decide),Bool.and_eq_true,decide_eq_true_iff,decide_eq_true_iff]at hout;exact hout
 have hins: ∀k,k<T.ks.length->1<=T.ls.countP λl=>decide(l.2=(k:Int)):=λk hk=>by
  have:=hkid k hk;unfold Ac.joinedB at this
  split at this
  ·split at this
   ·rw [Bool.and_eq_true,decide_eq_true_iff]at this;omega
   split at this
   ·rw [Bool.and_eq_true,decide_eq_true_iff]at this;omega
   rw [Bool.and_eq_true,decide_eq_true_iff]at this;omega
  rw [Bool.and_eq_true,decide_eq_true_iff]at this;omega
 have h64:T.ks.length<=40:=by
  have h6:=cover T.ks.length T.ls hins;have h7:=List.countP_le_length(p:=λl:Int×Int=>decide(0<=l.2/\l.2<(T.ks.length:Int)))(l:=T.ls);omega
 have hweb:Web T.ls(kkOf T):=by
  refine⟨h2,by rw [kkOf_length];omega,λi x e=> ?_⟩
  cases hq:T.ls[i]? with
  |none=>rw [hq]at e;simp at e
  |some l=>
   rw [hq]at e;obtain rfl:l.1=x:=by simpa using e
   have:=hin l(List.mem_of_getElem? hq)
   by_cases z:l.1= -1
   ·exact .inl z
   exact .inr⟨l.1.toNat,by omega,by rw [kkOf_length];omega⟩
 have hfree: ∃rk,Free T.ls rk:=by
  unfold Ac.freeB at h5
  split at h5
  ·simp at h5
  obtain⟨es,hes⟩: ∃es,((Ac.bet T.ls).map λe=>(e.1.toNat,e.2.toNat))=es:=⟨_,rfl⟩;rw [hes,List.isEmpty_iff]at h5
  have hno: ∀i,i<T.ks.length->Rk.lead es i i=false:=λi hi=>by
   cases hq:Rk.lead es i i with
   |false=>rfl
   |true=>
    have:i∈(List.range T.ks.length).filter λi=>Rk.lead es i i:=List.mem_filter.2⟨List.mem_range.2 hi,hq⟩;rw [h5]at this;simp at this
  refine⟨λk=>(List.range T.ks.length).countP λi=>Rk.lead es i k,λi f t e=> ?_⟩;have hl:=hin _(List.mem_of_getElem? e)
  have hm:(f,t)∈es:=by
   rw [<-hes];refine List.mem_map.2⟨((f:Int),(t:Int)), ?_,by simp⟩;unfold Ac.bet;refine List.mem_filter.2⟨List.mem_of_getElem? e,by simp⟩
  refine countP_lt(k:=f)(by omega)(hno f(by omega)) ?_ λj _ hjl=> ?_
  ·exact(Rk.lead_iff es f t).2⟨f, .refl f,hm⟩
  exact(Rk.lead_iff es j t).2⟨f,((Rk.lead_iff es j f).1 hjl).reach,hm⟩
 refine⟨hweb,hfree,λi hi=> ?_,hins,λk hk h12 h3=> ?_,by omega,by omega, ?_⟩
 ·have:=hin _(List.getElem_mem hi)
  omega
 ·have:=hkid k hk
  unfold Ac.joinedB at this;rw [if_pos h12,if_neg(by omega),if_pos h3,Bool.and_eq_true,decide_eq_true_iff,decide_eq_true_iff]at this;omega
 have: ¬T.ks.length=0:=by
  intro e;rw [decide_eq_true e]at h1
  cases h1
 omega
end Dd
end Go.Proofs
