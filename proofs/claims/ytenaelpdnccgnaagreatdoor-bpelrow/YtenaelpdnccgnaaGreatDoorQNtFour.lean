import Derived.Test.YtenaelpdnccgnaaGreatDoorQBwRes
import Derived.Test.YtenaelpdnccgnaaGreatDoorQNtThreeB
set_option maxRecDepth 100000
set_option maxHeartbeats 32000000
namespace Go.Proofs
open Go.RowKit Go.Shelf
def Nt.Bt (w:World)(g:Nat)(bs:List Bool):Prop:=w.heap[g]? =some (.cells (bs.map Value.bool).toArray 89 (0,0))
theorem Nt.Bt.lt {w:World}{g:Nat}{bs:List Bool}(h:Nt.Bt w g bs):g<w.heap.size:=(Array.getElem?_eq_some_iff.1 h).1
theorem Nt.Bt.cell {w:World}{g:Nat}{bs:List Bool}(h:Nt.Bt w g bs)(j:Nat)(b:Bool)(hj:bs[j]? =some b):w.cell? ⟨g,j,none⟩=some (.bool b):=by
 unfold Nt.Bt at h;simp[World.cell?,h,hj]
theorem Nt.Bt.frozen {w:World}{g:Nat}{bs:List Bool}(h:Nt.Bt w g bs)(j:Nat):w.frozen? ⟨g,j,none⟩=false:=by
 unfold Nt.Bt at h;simp[World.frozen?,h]
theorem Nt.Bt.put {w:World}{g:Nat}{bs:List Bool}(h:Nt.Bt w g bs)(j:Nat)(b:Bool):Nt.Bt (w.setCell ⟨g,j,none⟩ (.bool b)) g (bs.set j b):=by
 unfold Nt.Bt at*;simp[World.setCell,Array.getElem?_modify,h]
theorem Nt.Bt.keep {w w':World}{g:Nat}{bs:List Bool}(h:Nt.Bt w g bs)(hk:w'.heap[g]? =w.heap[g]?):Nt.Bt w' g bs:=by unfold Nt.Bt;rw[hk];exact h
theorem Nt.set_or {bs:List Bool}{y:Nat}{bx b:Bool}(hy:bs[y]? =some b):bs.set y (b||bx)=if bx=true then bs.set y true else bs:=by
 obtain⟨hl,he⟩:=List.getElem?_eq_some_iff.1 hy
 cases bx<;>cases b<;>simp
 ·rw[<-he];exact List.set_getElem_self hl
 rw[<-he];exact List.set_getElem_self hl
theorem Rk.drop_at' {α:Type}(l:List α)(k:Nat)(h:k<l.length):l.drop k=l[k]::l.drop (k+1):=List.drop_eq_getElem_cons h
structure Nt.Sw (w:World)(box:Array Value)(ah bk:List Bool)(W:World):Prop where
 below:Below w.heap.size w W
 box:W.heap[w.heap.size]? =some (.cells box 30 (0,0))
 ah:Nt.Bt W (w.heap.size+1) ah
 bk:Nt.Bt W (w.heap.size+1+1) bk
theorem Nt.Sw.next {w:World}{box:Array Value}{ah bk:List Bool}{W W':World}(h:Nt.Sw w box ah bk W)(hb:Below W.heap.size W W'):Nt.Sw w box ah bk W':=
 ⟨h.below.trans (hb.mono h.below.size),by rw[hb.block _ (Nt.lt_of h.box)];exact h.box,h.ah.keep (hb.block _ h.ah.lt),h.bk.keep (hb.block _ h.bk.lt)⟩
theorem Nt.Sw.alloc {w:World}{box:Array Value}{ah bk:List Bool}{W:World}(h:Nt.Sw w box ah bk W)(o:Obj):Nt.Sw w box ah bk (W.alloc o):=h.next ((Below.refl _ W).alloc (Nat.le_refl _) o)
theorem Nt.Sw.drew {w:World}{box:Array Value}{ah bk:List Bool}{W:World}(h:Nt.Sw w box ah bk W):Nt.Sw w box ah bk W.drew:=h.next (Below.refl _ W).drew
theorem Nt.Sw.put1 {w:World}{box:Array Value}{ah bk:List Bool}{W:World}(h:Nt.Sw w box ah bk W)(j:Nat)(b:Bool):Nt.Sw w box (ah.set j b) bk (W.setCell ⟨w.heap.size+1,j,none⟩ (.bool b)):=
 ⟨h.below.setCell (p:=⟨w.heap.size+1,j,none⟩) (by show w.heap.size<=w.heap.size+1;omega) _,by rw[Below.heap_setCell _ _ _ _ (by show w.heap.size≠w.heap.size+1;omega)];exact h.box,h.ah.put j b,h.bk.keep (Below.heap_setCell _ _ _ _ (by show w.heap.size+1+1≠w.heap.size+1;omega))⟩
theorem Nt.Sw.put2 {w:World}{box:Array Value}{ah bk:List Bool}{W:World}(h:Nt.Sw w box ah bk W)(j:Nat)(b:Bool):Nt.Sw w box ah (bk.set j b) (W.setCell ⟨w.heap.size+1+1,j,none⟩ (.bool b)):=
 ⟨h.below.setCell (p:=⟨w.heap.size+1+1,j,none⟩) (by show w.heap.size<=w.heap.size+1+1;omega) _,by rw[Below.heap_setCell _ _ _ _ (by show w.heap.size≠w.heap.size+1+1;omega)];exact h.box,h.ah.keep (Below.heap_setCell _ _ _ _ (by show w.heap.size+1≠w.heap.size+1+1;omega)),h.bk.put j b⟩
theorem Nt.enters_stray:∀args w,(callFunc 136 args).run Tryz.prog w=.ok (.enter 136 args) w:=enters_of Tryz.func136 (by kernel_rfl) rfl
theorem Tryz.stray1_any (i b1 b2:Nat)(x y:Bool)(w:World)(hi:i<24)(c1:w.cell? ⟨b1,i,none⟩=some (.bool x))(c2:w.cell? ⟨b2,i,none⟩=some (.bool y)):
  Calls Tryz.prog 136 #[.int .i64 i,.pointer (some ⟨b1,0,none⟩),.pointer (some ⟨b2,0,none⟩)] w λe w'=>e=.returned (.bool (!(x&&y)))/\Below w.heap.size w w':=by
 have hi':(i:Int)<24:=by omega
 have hi0:(0:Int)<=i:=by omega
 have BR:Hid (Below w.heap.size w w):=Below.refl _ _;have BD:Hid (∀j,Below w.heap.size w (w.drewN j)):=λj=>Tk.below_drewN (Below.refl _ w) j
 cases x
 all_goals
  go_enter Tryz.func136,Tryz.ntmps136
  go_wp2;go_ret;exact⟨Tk.ret_bool (by simp),by first|exact BR.out|exact BD.out _⟩
theorem Nt.marks_zero:(#[.bool false,.bool false,.bool false,.bool false,.bool false,.bool false,.bool false,.bool false,.bool false,.bool false,.bool false,.bool false,.bool false,.bool false,.bool false,.bool false,.bool false,.bool false,.bool false,.bool false,.bool false,.bool false,.bool false,.bool false]:Array Value)=((List.replicate 24 false).map Value.bool).toArray:=by kernel_rfl
theorem Tryz.strayNodes_any (an:Option Addr)(cn:Nat)(af:Option Addr)(cf d:Nat)(ns:List Nd)(fs:List Fl)(w:World)(hH:Nt.Has w w.heap.size d an af ns fs)(hn24:ns.length<=24)(hes:∀f,f∈fs->0<=f.fr/\f.fr<ns.length/\0<=f.to/\f.to<ns.length)(hs0:0<=Nt.firstI ns 1)(he0:0<=Nt.firstI ns 2):
  Calls Tryz.prog 103 #[.agg #[.slice an ns.length cn,.slice af fs.length cf]] w λe w'=>Nt.Gives (Nt.wrong4 ns fs) w e w':=by
 obtain⟨s,hs⟩:∃s:Nat,Nt.firstI ns 1=s:=⟨(Nt.firstI ns 1).toNat,by omega⟩;obtain⟨t,ht⟩:∃s:Nat,Nt.firstI ns 2=s:=⟨(Nt.firstI ns 2).toNat,by omega⟩;have hsn:s<ns.length:=by have:=Nt.firstI_lt ns 1;omega
 have htn:t<ns.length:=by have:=Nt.firstI_lt ns 2;omega
 obtain⟨es,hE⟩:=pE (Nt.edges fs);have hel:=Nt.edges_lt hes;rw[hE]at hel;have hA:=Nt.sweeps_long hel hsn hn24;have hB:=Nt.sweeps_long (Nt.back_lt hel) htn hn24
 have HES:Hid (∀k (h:k<fs.length),∃x y:Nat,x<ns.length/\y<ns.length/\fs[k].fr=x/\fs[k].to=y/\es[k]? =some (x,y)):=λk hk=>by
  have:=hes _ (List.getElem_mem hk);refine⟨fs[k].fr.toNat,fs[k].to.toNat,by omega,by omega,by omega,by omega, ?_⟩;rw[<-hE,List.getElem?_eq_getElem (by rw[Nt.edges_length];exact hk),Nt.edges_get fs k hk]
 have hell:es.length=fs.length:=by rw[<-hE,Nt.edges_length]
 obtain⟨w2,hw2⟩:=pE (((w.alloc (.cells #[.slice an ns.length cn,.slice af fs.length cf] 30)).alloc (.cells #[.bool false,.bool false,.bool false,.bool false,.bool false,.bool false,.bool false,.bool false,.bool false,.bool false,.bool false,.bool false,.bool false,.bool false,.bool false,.bool false,.bool false,.bool false,.bool false,.bool false,.bool false,.bool false,.bool false,.bool false] 89)).alloc (.cells #[.bool false,.bool false,.bool false,.bool false,.bool false,.bool false,.bool false,.bool false,.bool false,.bool false,.bool false,.bool false,.bool false,.bool false,.bool false,.bool false,.bool false,.bool false,.bool false,.bool false,.bool false,.bool false,.bool false,.bool false] 89))
 have C2:Nt.Sw w #[.slice an ns.length cn,.slice af fs.length cf] (List.replicate 24 false) (List.replicate 24 false) w2:=by
  rw[<-hw2];refine⟨(((Below.refl _ w).alloc (Nat.le_refl _) _).alloc (by simp) _).alloc (by simp;omega) _, ?_, ?_, ?_⟩
  ·rw[Below.heap_alloc _ _ _ (by simp;omega),Below.heap_alloc _ _ _ (by simp)];exact heap_alloc_new w _
  ·unfold Nt.Bt
   rw[Below.heap_alloc _ _ _ (by simp),<-Nt.marks_zero];have:=heap_alloc_new (w.alloc (.cells #[.slice an ns.length cn,.slice af fs.length cf] 30)) (.cells #[.bool false,.bool false,.bool false,.bool false,.bool false,.bool false,.bool false,.bool false,.bool false,.bool false,.bool false,.bool false,.bool false,.bool false,.bool false,.bool false,.bool false,.bool false,.bool false,.bool false,.bool false,.bool false,.bool false,.bool false] 89);simpa using this
  unfold Nt.Bt;rw[<-Nt.marks_zero];have:=heap_alloc_new ((w.alloc (.cells #[.slice an ns.length cn,.slice af fs.length cf] 30)).alloc (.cells #[.bool false,.bool false,.bool false,.bool false,.bool false,.bool false,.bool false,.bool false,.bool false,.bool false,.bool false,.bool false,.bool false,.bool false,.bool false,.bool false,.bool false,.bool false,.bool false,.bool false,.bool false,.bool false,.bool false,.bool false] 89)) (.cells #[.bool false,.bool false,.bool false,.bool false,.bool false,.bool false,.bool false,.bool false,.bool false,.bool false,.bool false,.bool false,.bool false,.bool false,.bool false,.bool false,.bool false,.bool false,.bool false,.bool false,.bool false,.bool false,.bool false,.bool false] 89);simpa using this
 have hst:=λW (hb:Below w.heap.size w W)=>Tryz.nStart_any an cn d af fs.length cf ns W ((hH.nds.below hb).wider hb.size) hH.nlen;have hen:=λW (hb:Below w.heap.size w W)=>Tryz.nEnd_any an cn d af fs.length cf ns W ((hH.nds.below hb).wider hb.size) hH.nlen;obtain⟨l,hl⟩:=pE (Nt.wrong4 ns fs)
 have HP:Hid (∀(W:World) (box:Array Value),Nt.Sw w box (Rk.sweeps es ns.length ((List.replicate 24 false).set s true)) (Rk.sweeps (Nt.back es) ns.length ((List.replicate 24 false).set t true)) W->
   Calls Tryz.prog 125 #[.int .i64 ns.length,.func (.func 136) #[] #[.pointer (some ⟨w.heap.size+1,0,none⟩),.pointer (some ⟨w.heap.size+1+1,0,none⟩)]] W λe w'=>∃v,e=.returned v/\w'.ownsRow W.heap.size 3 1 v l.length (Rk.nums l)/\Below W.heap.size W w'):=λW box hS=>by
  have h:=Tryz.places_any (λi=> !Nt.roadB ns fs i) 136 #[.pointer (some ⟨w.heap.size+1,0,none⟩),.pointer (some ⟨w.heap.size+1+1,0,none⟩)] Nt.enters_stray ns.length W (λW' k hk hb=>by
   have hS':=hS.next hb;have h:=Tryz.stray1_any k (w.heap.size+1) (w.heap.size+1+1) (Rk.met es s k) (Rk.met es k t) W' (by omega) (hS'.ah.cell k _ (hA k hk)) (hS'.bk.cell k _ (by rw[hB k hk,Nt.met_back]));refine h.mono λe w' h=>⟨?_,h.2⟩;rw[h.1];show _=Ending.returned (Value.bool (!(Rk.met (Nt.edges fs) (Nt.firstI ns 1).toNat k&&Rk.met (Nt.edges fs) k (Nt.firstI ns 2).toNat)));rw[hE,hs,ht]
   rfl) (by omega)
  rw[show(List.range ns.length).filter (λi=> !Nt.roadB ns fs i)=l from hl]at h;exact h
 have HFL:Hid (Nt.Fls w w.heap.size d af fs):=hH.fls;obtain⟨n,hnn⟩:=pE (ns.length);obtain⟨m,hmm⟩:=pE (fs.length);have hm100:m<=100:=by have:=hH.flen;omega
 rw[hs,hnn,hmm]at hst;rw[ht,hnn,hmm]at hen;rw[hnn]at hn24 hsn htn HES HP;rw[hnn,hmm]at hw2 C2;rw[hl,hnn,hmm];have H2:Hid (((w.alloc (.cells #[.slice an n cn,.slice af m cf] 30)).alloc (.cells #[.bool false,.bool false,.bool false,.bool false,.bool false,.bool false,.bool false,.bool false,.bool false,.bool false,.bool false,.bool false,.bool false,.bool false,.bool false,.bool false,.bool false,.bool false,.bool false,.bool false,.bool false,.bool false,.bool false,.bool false] 89)).alloc (.cells #[.bool false,.bool false,.bool false,.bool false,.bool false,.bool false,.bool false,.bool false,.bool false,.bool false,.bool false,.bool false,.bool false,.bool false,.bool false,.bool false,.bool false,.bool false,.bool false,.bool false,.bool false,.bool false,.bool false,.bool false] 89)=w2):=hw2;have HC2:Hid (Nt.Sw w #[.slice an n cn,.slice af m cf] (List.replicate 24 false) (List.replicate 24 false) w2):=C2;have HM:Hid (es.length=m/\fs.length=m):=⟨by omega,hmm⟩;have hs24:(s:Int)<24:=by omega
 have ht24:(t:Int)<24:=by omega
 have hs0':(0:Int)<=s:=by omega
 have ht0':(0:Int)<=t:=by omega
 have CS:Hid (∀W,Nt.Sw w #[.slice an n cn,.slice af m cf] (List.replicate 24 false) (List.replicate 24 false) W->Calls Tryz.prog 132 #[.agg #[.slice an n cn,.slice af m cf]] W λe w'=>e=.returned (.int .i64 s)/\Hid (Nt.Sw w #[.slice an n cn,.slice af m cf] (List.replicate 24 false) (List.replicate 24 false) w')):=λW h=>(hst W h.below).mono λe w' q=>⟨q.1,h.next q.2⟩;have CE:Hid (∀W,Nt.Sw w #[.slice an n cn,.slice af m cf] (List.replicate 24 false) (List.replicate 24 false) W->Calls Tryz.prog 133 #[.agg #[.slice an n cn,.slice af m cf]] W λe w'=>e=.returned (.int .i64 t)/\Hid (Nt.Sw w #[.slice an n cn,.slice af m cf] (List.replicate 24 false) (List.replicate 24 false) w')):=λW h=>(hen W h.below).mono λe w' q=>⟨q.1,h.next q.2⟩
 have CF:Hid (∀W,Nt.Sw w #[.slice an n cn,.slice af m cf] (List.replicate 24 false) (List.replicate 24 false) W->(W.cell? ⟨w.heap.size,0,none⟩=some (.slice an n cn)/\W.cell? ⟨w.heap.size,1,none⟩=some (.slice af m cf))/\W.cell? ⟨w.heap.size+1,s,none⟩=some (.bool false)/\W.cell? ⟨w.heap.size+1+1,t,none⟩=some (.bool false)/\W.frozen? ⟨w.heap.size+1,s,none⟩=false/\W.frozen? ⟨w.heap.size+1+1,t,none⟩=false):=λW h=>
  ⟨Nt.box2 h.box,h.ah.cell s false (by rw[List.getElem?_replicate,if_pos (by omega)]),h.bk.cell t false (by rw[List.getElem?_replicate,if_pos (by omega)]),h.ah.frozen s,h.bk.frozen t⟩
 clear hH hes hst hen hA hB hel hE hell hnn hmm hl hs ht hs0 he0 hw2 C2
 go_enter Tryz.func103,Tryz.ntmps103
 go_upto_region 2 with fail
 rw[H2.out]
 go_cut [] (λwx=>Hid (Nt.Sw w #[.slice an n cn,.slice af m cf] ((List.replicate 24 false).set s true) ((List.replicate 24 false).set t true) wx))
 case first=>
  clear HP HES HFL
  go_region_held3 (λW=>W.cell? ⟨w.heap.size,0,none⟩=some (.slice an n cn)/\W.cell? ⟨w.heap.size,1,none⟩=some (.slice af m cf))
   (first|exact(CF.out _ S4.out).1|exact(CF.out _ S3.out).1|exact(CF.out _ HC2.out).1|exact(CF.out _ HC2.out.drew).1|exact Nt.box2 (S4.out.put1 _ _).box|exact Nt.box2 (S4.out.put2 _ _).box|exact Nt.box2 ((S4.out.put1 _ _).put2 _ _).box|exact Nt.box2 ((S4.out.put2 _ _).put1 _ _).box)
   (first
   |(go_simp;go_at_call 132;refine Calls.mono (CS.out _ ?_) ?_;(first|exact HC2.out|exact HC2.out.drew);rintro e W3 ⟨rfl,S3⟩;obtain⟨-,k3,k4,k5,k6⟩:=CF.out W3 S3.out)
   |(go_simp;go_at_call 133;refine Calls.mono (CE.out _ ?_) ?_;(first|exact S3.out|exact S3.out.drew);rintro e W4 ⟨rfl,S4⟩;obtain⟨-,k7,k8,k9,k10⟩:=CF.out W4 S4.out))
  all_goals
   go_wp2_with fail
   go_meet
   first|exact(S4.out.put1 _ _).put2 _ _|exact(S4.out.put2 _ _).put1 _ _
 case rest=>
 rename World=>wc;obtain⟨q0,q1⟩:=Nt.box2 hcut.out.box;have HCC:Hid (Nt.Sw w #[.slice an n cn,.slice af m cf] ((List.replicate 24 false).set s true) ((List.replicate 24 false).set t true) wc):=hcut.out;clear hcut CS CE CF H2 HC2;obtain⟨FA,hFA⟩:=pE (Rk.sweeps es n ((List.replicate 24 false).set s true));obtain⟨FB,hFB⟩:=pE (Rk.sweeps (Nt.back es) n ((List.replicate 24 false).set t true));rw[hFA,hFB]at HP;have HFF:Hid (Rk.sweeps es n ((List.replicate 24 false).set s true)=FA/\Rk.sweeps (Nt.back es) n ((List.replicate 24 false).set t true)=FB):=⟨hFA,hFB⟩;clear hFA hFB;go_wp2
 go_loopg [16] n (λgk s16 wr=>∃(j:Nat) (ah bk:List Bool),gk+j=n/\s16=.int .i64 j/\Hid (Rk.sweeps es (n-j) ah=FA/\Rk.sweeps (Nt.back es) (n-j) bk=FB/\ah.length=24/\bk.length=24/\Nt.Sw w #[.slice an n cn,.slice af m cf] ah bk wr))
 case atStart=>exact⟨0,_,_,by omega,rfl,HFF.out.1,HFF.out.2,by simp,by simp,HCC.out⟩
 case round=>
  obtain⟨j,ah,bk,hj,rfl,HI⟩:=hrel;clear q0 q1 HCC HFF
  by_cases hlt:j<n
  rotate_left
  ·have hd:decide ((j:Int)<n)=false:=decide_eq_false (by omega)
   have HF:Hid (Nt.Sw w #[.slice an n cn,.slice af m cf] FA FB wr):=by
    show Nt.Sw _ _ _ _ _;have h1:=HI.out.1;have h2:=HI.out.2.1;rw[show n-j=0 by omega]at h1 h2;rw[<-h1,<-h2];exact HI.out.2.2.2.2
   obtain⟨q0,q1⟩:=Nt.box2 HI.out.2.2.2.2.box
   go_wp2_with fail
   refine Calls.mono (HP.out wr _ HF.out) ?_;rintro e W6 ⟨v,rfl,how,hb6⟩;have B6:Hid (W6.ownsRow w.heap.size 3 1 v l.length (Rk.nums l)/\Below w.heap.size w W6):=⟨Nt.own_lower how HF.out.below.size,HF.out.below.trans (hb6.mono HF.out.below.size)⟩;clear how hb6 HP;go_wp2;go_ret;exact⟨v,rfl,B6.out.1,B6.out.2⟩
  have hd:decide ((j:Int)<n)=true:=decide_eq_true (by omega);obtain⟨q0,q1⟩:=Nt.box2 HI.out.2.2.2.2.box
  have HSA:Hid (Rk.sweeps es (n-(j+1)) (Rk.sweep es ah)=FA/\Rk.sweeps (Nt.back es) (n-(j+1)) (Rk.sweep (Nt.back es) bk)=FB):=by
   refine⟨?_, ?_⟩
   ·rw[<-HI.out.1,show n-j=(n-(j+1))+1 by omega,Rk.sweeps]
   rw[<-HI.out.2.1,show n-j=(n-(j+1))+1 by omega,Rk.sweeps]
  obtain⟨g1,hg1⟩:=pE (gk);go_wp2
  go_loopg [21] m (λgk s21 wr=>∃(k:Nat) (ca cb:List Bool),gk+k=m/\s21=.int .i64 k/\Hid (Rk.sweep (es.drop k) ca=Rk.sweep es ah/\Rk.sweep ((Nt.back es).drop k) cb=Rk.sweep (Nt.back es) bk/\ca.length=24/\cb.length=24/\Nt.Sw w #[.slice an n cn,.slice af m cf] ca cb wr))
  case atStart=>exact⟨0,ah,bk,by omega,rfl,rfl,rfl,HI.out.2.2.1,HI.out.2.2.2.1,HI.out.2.2.2.2⟩
  case round=>
   obtain⟨k,ca,cb,hk,rfl,HJ⟩:=hrel;clear q0 q1
   by_cases hlt2:k<m
   rotate_left
   ·have hd2:decide ((k:Int)<m)=false:=decide_eq_false (by omega)
    have HF:Hid (ca=Rk.sweep es ah/\cb=Rk.sweep (Nt.back es) bk):=by
     refine⟨?_, ?_⟩
     ·rw[<-HJ.out.1,List.drop_of_length_le (by rw[HM.out.1];omega)]
      rfl
     rw[<-HJ.out.2.1,List.drop_of_length_le (by rw[Nt.back_length,HM.out.1];omega)];rfl
    go_wp2;go_roundg (g1-1)
    case measure=>omega
    case rel=>exact⟨j+1,ca,cb,by omega,by go_num,by rw[HF.out.1];exact HSA.out.1,by rw[HF.out.2];exact HSA.out.2,HJ.out.2.2.1,HJ.out.2.2.2.1,HJ.out.2.2.2.2⟩
   have hd2:decide ((k:Int)<m)=true:=decide_eq_true (by omega);have hkl:k<fs.length:=by rw[HM.out.2];exact hlt2
   obtain⟨q,off,u,rfl,hq,h0,h1,h2,h3,h4,h5,h6⟩:=HFL.out k hkl;obtain⟨x,y,hx,hy,hfx,hfy,hek⟩:=HES.out k hkl;obtain⟨au,cu,rfl⟩:=h6.shape;rw[hfx]at h0;rw[hfy]at h1;obtain⟨nu,hnu⟩:=pE (fs[k].c.ks.length);obtain⟨els,hel⟩:=pE (fs[k].els);obtain⟨op,hop⟩:=pE (fs[k].c.op);obtain⟨num,hnum⟩:=pE (fs[k].c.num);rw[hnu]at h5;rw[hel]at h2;rw[hop]at h3;rw[hnum]at h4;have hc:∀o,wr.cell? ⟨q,o,none⟩=w.cell? ⟨q,o,none⟩:=λo=>HJ.out.2.2.2.2.below.cell (p:=⟨q,o,none⟩) hq;have c0:=(hc _).trans h0;have c1:=(hc _).trans h1;have c2:=(hc _).trans h2;have c3:=(hc _).trans h3;have c4:=(hc _).trans h4;have c5:=(hc _).trans h5;have hx24:(x:Int)<24:=by omega
   have hy24:(y:Int)<24:=by omega
   have hx0:(0:Int)<=x:=by omega
   have hy0:(0:Int)<=y:=by omega
   have hu:=Tryz.underlying64;obtain⟨ax,hax⟩:∃b,ca[x]? =some b:=⟨_,List.getElem?_eq_getElem (by rw[HJ.out.2.2.1];omega)⟩;obtain⟨ay,hay⟩:∃b,ca[y]? =some b:=⟨_,List.getElem?_eq_getElem (by rw[HJ.out.2.2.1];omega)⟩;obtain⟨bx,hbx⟩:∃b,cb[x]? =some b:=⟨_,List.getElem?_eq_getElem (by rw[HJ.out.2.2.2.1];omega)⟩;obtain⟨b_y,hby⟩:∃b,cb[y]? =some b:=⟨_,List.getElem?_eq_getElem (by rw[HJ.out.2.2.2.1];omega)⟩
   have HNX:Hid (Rk.sweep (es.drop (k+1)) (ca.set y (ay||ax))=Rk.sweep es ah/\Rk.sweep ((Nt.back es).drop (k+1)) (cb.set x (bx||b_y))=Rk.sweep (Nt.back es) bk):=by
    obtain⟨hh,he⟩:=List.getElem?_eq_some_iff.1 hek;refine⟨?_, ?_⟩
    ·rw[<-HJ.out.1,Rk.drop_at' es k hh,Rk.sweep,he,Nt.set_or hay]
     congr 1
     simp only[hax,Option.some.injEq]
    rw[<-HJ.out.2.1,Rk.drop_at' (Nt.back es) k (by rw[Nt.back_length];exact hh),Rk.sweep,Nt.set_or hbx]
    congr 1
    simp only[Nt.back,List.getElem_map,he,hby,Option.some.injEq]
   obtain⟨W0,hW0⟩:=pE (wr.alloc (.cells #[.int .i64 (x:Int),.int .i64 (y:Int),.bool els,.int .i64 op,.int .i64 num,.slice au nu cu] 64));have S0:Hid (Nt.Sw w #[.slice an n cn,.slice (some ⟨q,off,none⟩) m cf] ca cb W0):=by show Nt.Sw _ _ _ _ _;rw[<-hW0];exact HJ.out.2.2.2.2.alloc _
   have F0:Hid (W0.heap[wr.heap.size]? =some (.cells #[.int .i64 (x:Int),.int .i64 (y:Int),.bool els,.int .i64 op,.int .i64 num,.slice au nu cu] 64 (0,0))):=by show _=_;rw[<-hW0];exact heap_alloc_new wr _
   have HW0:Hid (wr.alloc (.cells #[.int .i64 (x:Int),.int .i64 (y:Int),.bool els,.int .i64 op,.int .i64 num,.slice au nu cu] 64)=W0):=hW0;have hn1:wr.heap.size≠w.heap.size+1:=by have:=HJ.out.2.2.2.2.ah.lt;omega
   have hn2:wr.heap.size≠w.heap.size+1+1:=by have:=HJ.out.2.2.2.2.bk.lt;omega
   have HQ:Hid (ca[x]? =some ax/\ca[y]? =some ay/\cb[x]? =some bx/\cb[y]? =some b_y):=⟨hax,hay,hbx,hby⟩;clear h0 h1 h2 h3 h4 h5 h6 hc hnu hel hop hnum hq hfx hfy hek hax hay hbx hby hW0
   go_upto_region 8 with fail
   rw[HW0.out];clear HW0 c0 c1 c2 c3 c4 c5
   go_cut [] (λwx=>Hid (Nt.Sw w #[.slice an n cn,.slice (some ⟨q,off,none⟩) m cf] (ca.set y (ay||ax)) cb wx/\wx.heap[wr.heap.size]? =some (.cells #[.int .i64 (x:Int),.int .i64 (y:Int),.bool els,.int .i64 op,.int .i64 num,.slice au nu cu] 64 (0,0))))
   case first=>
    obtain⟨f0,f1,f2,f3,f4,f5⟩:=Nt.flowBox F0.out;have k1:=S0.out.ah.cell x ax HQ.out.1;have k2:=S0.out.ah.cell y ay HQ.out.2.1;have k3:=S0.out.ah.frozen y
    have HE:Hid (∀W v,W=W0∨W=W0.drew->v=(ay||ax)->Nt.Sw w #[.slice an n cn,.slice (some ⟨q,off,none⟩) m cf] (ca.set y (ay||ax)) cb (W.setCell ⟨w.heap.size+1,y,none⟩ (.bool v))/\(W.setCell ⟨w.heap.size+1,y,none⟩ (.bool v)).heap[wr.heap.size]? =some (.cells #[.int .i64 (x:Int),.int .i64 (y:Int),.bool els,.int .i64 op,.int .i64 num,.slice au nu cu] 64 (0,0))):=λW v hW hv=>by
     subst hv
     rcases hW with rfl|rfl
     ·exact⟨S0.out.put1 _ _,by rw[Below.heap_setCell _ _ _ _ hn1];exact F0.out⟩
     exact⟨S0.out.drew.put1 _ _,by rw[Below.heap_setCell _ _ _ _ hn1];exact F0.out⟩
    clear S0 F0 HQ HNX HSA HI HJ HP HES HFL
    cases ay
    all_goals
     go_region
     all_goals
      go_wp2_with fail
      go_meet
      first|exact HE.out _ _ (.inl rfl) (by simp)|exact HE.out _ _ (.inr rfl) (by simp)
   case rest=>
   rename World=>w5;have HC5:Hid (Nt.Sw w #[.slice an n cn,.slice (some ⟨q,off,none⟩) m cf] (ca.set y (ay||ax)) cb w5/\w5.heap[wr.heap.size]? =some (.cells #[.int .i64 (x:Int),.int .i64 (y:Int),.bool els,.int .i64 op,.int .i64 num,.slice au nu cu] 64 (0,0))):=hcut.out;clear hcut S0 F0;obtain⟨f0,f1,f2,f3,f4,f5⟩:=Nt.flowBox HC5.out.2;have k1:=HC5.out.1.bk.cell x bx HQ.out.2.2.1;have k2:=HC5.out.1.bk.cell y b_y HQ.out.2.2.2;have k3:=HC5.out.1.bk.frozen x
   have HE:Hid (∀W v,W=w5∨W=w5.drew->v=(bx||b_y)->Nt.Sw w #[.slice an n cn,.slice (some ⟨q,off,none⟩) m cf] (ca.set y (ay||ax)) (cb.set x (bx||b_y)) (W.setCell ⟨w.heap.size+1+1,x,none⟩ (.bool v))):=λW v hW hv=>by
    subst hv
    rcases hW with rfl|rfl
    ·exact HC5.out.1.put2 _ _
    exact HC5.out.1.drew.put2 _ _
   clear HC5 HQ
   cases bx
   all_goals
    go_upto_region 9 with fail
    go_region
    all_goals
     go_wp2;go_roundg (gk-1)
     case measure=>omega
     case rel=>exact⟨k+1,_,_,by omega,by go_num,HNX.out.1,HNX.out.2,by simpa using HJ.out.2.2.1,by simpa using HJ.out.2.2.2.1,by first|exact HE.out _ _ (.inl rfl) (by simp)|exact HE.out _ _ (.inr rfl) (by simp)⟩
noncomputable def Nt.wrongAt (ns:List Nd)(fs:List Fl):Nat->List Nat
 |0=>Nt.wrong1 ns fs
 |1=>Nt.wrong2 ns fs
 |2=>Nt.wrong3 ns fs
 |_=>Nt.wrong4 ns fs
theorem Nt.broken_at {ns:List Nd}{fs:List Fl}{j:Nat}(hj:j<4)(hb:∀i,i<j->Nt.wrongAt ns fs i= [])(h:Nt.wrongAt ns fs j≠ []):Nt.broken ns fs=(j+1,Nt.wrongAt ns fs j):=by
 unfold Nt.broken
 match j,hj with
 |0,_=>
  have h0:(Nt.wrong1 ns fs).isEmpty=false:=by rw[List.isEmpty_eq_false_iff];exact h
  rw[if_pos h0];rfl
 |1,_=>
  have h0:Nt.wrong1 ns fs= []:=hb 0 (by omega);have h1:(Nt.wrong2 ns fs).isEmpty=false:=by rw[List.isEmpty_eq_false_iff];exact h
  rw[if_neg (by rw[h0];simp),if_pos h1];rfl
 |2,_=>
  have h0:Nt.wrong1 ns fs= []:=hb 0 (by omega);have h1:Nt.wrong2 ns fs= []:=hb 1 (by omega);have h2:(Nt.wrong3 ns fs).isEmpty=false:=by rw[List.isEmpty_eq_false_iff];exact h
  rw[if_neg (by rw[h0];simp),if_neg (by rw[h1];simp),if_pos h2];rfl
 |3,_=>
  have h0:Nt.wrong1 ns fs= []:=hb 0 (by omega);have h1:Nt.wrong2 ns fs= []:=hb 1 (by omega);have h2:Nt.wrong3 ns fs= []:=hb 2 (by omega);have h3:(Nt.wrong4 ns fs).isEmpty=false:=by rw[List.isEmpty_eq_false_iff];exact h
  rw[if_neg (by rw[h0];simp),if_neg (by rw[h1];simp),if_neg (by rw[h2];simp),if_pos h3];rfl
theorem Nt.broken_none {ns:List Nd}{fs:List Fl}(hb:∀i,i<4->Nt.wrongAt ns fs i= []):Nt.broken ns fs=(0, []):=by
 have h0:Nt.wrong1 ns fs= []:=hb 0 (by omega);have h1:Nt.wrong2 ns fs= []:=hb 1 (by omega);have h2:Nt.wrong3 ns fs= []:=hb 2 (by omega);have h3:Nt.wrong4 ns fs= []:=hb 3 (by omega);unfold Nt.broken;rw[if_neg (by rw[h0];simp),if_neg (by rw[h1];simp),if_neg (by rw[h2];simp),if_neg (by rw[h3];simp)]
def Nt.rows (r:Nat)(l:List Nat):List Value:=l.flatMap λa:Nat=> [Value.int .i64 (r:Int),Value.int .i64 (a:Int)]
theorem Nt.rows_snoc (r:Nat)(l:List Nat)(a:Nat):Nt.rows r (l++ [a])=Nt.rows r l++ [.int .i64 (r:Int),.int .i64 (a:Int)]:=by simp[Nt.rows]
theorem Nt.infoBroken:(Tryz.prog.info? 120).map (λi=>(i.zero,i.size,i.bytes))=some (some (.agg #[.int .i64 0,.int .i64 0]),2,16):=by kernel_rfl
theorem Nt.two_cell (w:World)(r a:Int)(t:TypeId):∀j u, [Value.int .i64 r,Value.int .i64 a][j]? =some u->(w.alloc (.cells #[.int .i64 r,.int .i64 a] t)).cell? ((⟨w.heap.size,0,none⟩:Addr).add j)=some u:=by
 intro j u hj
 match j,hj with
 |0,hj=>simp at hj;subst hj;simp[Addr.add]
 |1,hj=>simp at hj;subst hj;simp[Addr.add]
theorem Nt.two_one (r a:Int):∀u∈ [Value.int .i64 r,Value.int .i64 a],u.oneCell'=true:=by
 intro u hu;simp at hu
 rcases hu with rfl|rfl<;>rfl
theorem Nt.own_cellA {w:World}{B:Nat}{v:Value}{l:List Nat}(h:w.ownsRow B 3 1 v l.length (Rk.nums l)):∃a c,v=.slice a l.length c/\∀j x,l[j]? =some x->∃g,a=some ⟨g,0,none⟩/\g<w.heap.size/\w.cell? ⟨g,j,none⟩=some (.int .i64 ((x:Nat):Int)):=by
 rcases h.2 with⟨hv,hn⟩|⟨g,cap,cur,hv,_,hg,h1,_,_,h2⟩
 ·exact⟨none,0,by rw[hv,hn],λj x hx=>by have:=(List.getElem?_eq_some_iff.1 hx).1;omega⟩
 refine⟨_,_,hv,λj x hx=>⟨g,rfl,(Array.getElem?_eq_some_iff.1 hg).1, ?_⟩⟩;obtain⟨hj,rfl⟩:=List.getElem?_eq_some_iff.1 hx
 have:cur[j]? =some (.int .i64 l[j]):=by
  have h3:(cur.toList.take (l.length*1))[j]? =(Rk.nums l)[j]? :=by rw[h2]
  rw[List.getElem?_take_of_lt (by omega)]at h3;rw[<-Array.getElem?_toList,h3];simp[Rk.nums,hj]
 unfold World.cell?;rw[hg];exact this
theorem Nt.own_nil {w:World}{B:Nat}{e:TypeId}{size:Nat}{v:Value}{k:Nat}{cs:List Value}(h:w.ownsRow B e size v k cs)(hk:0<k):∃g c,v=.slice (some ⟨g,0,none⟩) k c:=by
 rcases h.2 with⟨_,h1⟩|⟨g,cap,cur,h1,_⟩
 ·omega
 exact⟨g,cap,h1⟩
def Nt.AllGives (p:Nat×List Nat)(w:World)(e:Ending)(w':World):Prop:=∃v,e=.returned v/\w'.ownsRow w.heap.size 120 2 v p.2.length (Nt.rows p.1 p.2)/\Below w.heap.size w w'
theorem Nt.wrong_call (j:Nat)(hj:j<4)(an:Option Addr)(cn:Nat)(af:Option Addr)(cf d:Nat)(ns:List Nd)(fs:List Fl)(w:World)(hH:Nt.Has w w.heap.size d an af ns fs)(hO:Tk.Ops w)(hb:∀i,i<j->Nt.wrongAt ns fs i= []):
  ∃g,(#[100,101,102,103]:Array Nat)[j]? =some g/\(∀args w,(callFunc g args).run Tryz.prog w=.ok (.enter g args) w)/\Calls Tryz.prog g #[.agg #[.slice an ns.length cn,.slice af fs.length cf]] w λe w'=>Nt.Gives (Nt.wrongAt ns fs j) w e w':=by
 have e1:∀h:(0:Nat)<j,ns.length<=24/\fs.length<=40:=λh=>Nt.one_keeps (by rw[show Nt.wrong1 ns fs= []from hb 0 h];rfl)
 have e2:∀h:(1:Nat)<j,∀f,f∈fs->0<=f.fr/\f.fr<ns.length/\0<=f.to/\f.to<ns.length:=λh f hf=>by
  have:=Nt.two_keeps (ns:=ns) (fs:=fs) (by rw[show Nt.wrong2 ns fs= []from hb 1 h];rfl) f hf;exact⟨this.1,this.2.1,this.2.2.1,this.2.2.2.1⟩
 have e3:∀h:(2:Nat)<j,0<=Nt.firstI ns 1/\0<=Nt.firstI ns 2:=λh=>Nt.three_keeps (fs:=fs) (by rw[show Nt.wrong3 ns fs= []from hb 2 h];rfl)
 match j,hj with
 |0,_=>exact⟨100,rfl,enters_of Tryz.func100 (by kernel_rfl) rfl,Tryz.wrongNodes_any an cn af cf d ns fs w hH hO⟩
 |1,_=>exact⟨101,rfl,enters_of Tryz.func101 (by kernel_rfl) rfl,Tryz.wrongFlows_any an cn af cf d ns fs w hH hO (e1 (by omega)).1⟩
 |2,_=>exact⟨102,rfl,enters_of Tryz.func102 (by kernel_rfl) rfl,Tryz.wrongJoints_any an cn af cf d ns fs w hH (e1 (by omega)).1 (λf hf=>(e2 (by omega) f hf).2.2)⟩
 |3,_=>exact⟨103,rfl,enters_of Tryz.func103 (by kernel_rfl) rfl,Tryz.strayNodes_any an cn af cf d ns fs w hH (e1 (by omega)).1 (e2 (by omega)) (e3 (by omega)).1 (e3 (by omega)).2⟩
theorem Nt.wrong_len {ns:List Nd}{fs:List Fl}(hn:ns.length<=100)(hf:fs.length<=100)(j:Nat):(Nt.wrongAt ns fs j).length<=101:=by
 have hfil:∀(n:Nat) (p:Nat->Bool),((List.range n).filter p).length<=n:=λn p=>by have:=List.length_filter_le p (List.range n);rwa [List.length_range]at this
 match j with
 |0=>
  show(Nt.wrong1 ns fs).length<=101;unfold Nt.wrong1
  split
  ·simp
  exact Nat.le_trans (hfil _ _) (by omega)
 |1=>
  show(Nt.wrong2 ns fs).length<=101;exact Nat.le_trans (hfil _ _) (by omega)
 |2=>
  show(Nt.wrong3 ns fs).length<=101;unfold Nt.wrong3;rw[List.length_append];have:=hfil ns.length (λi=> !Nt.jointB ns fs i)
  split<;>simp<;>omega
 |j+3=>
  show(Nt.wrong4 ns fs).length<=101;exact Nat.le_trans (hfil _ _) (by omega)
theorem Tryz.nAll_any (an:Option Addr)(cn:Nat)(af:Option Addr)(cf d:Nat)(ns:List Nd)(fs:List Fl)(w:World)(hH:Nt.Has w w.heap.size d an af ns fs)(hO:Tk.Ops w):
  Calls Tryz.prog 74 #[.agg #[.slice an ns.length cn,.slice af fs.length cf]] w λe w'=>Nt.AllGives (Nt.broken ns fs) w e w':=by
 obtain⟨i0,hi0,hz0,hz1,hz2⟩:=info_parts Nt.infoBroken;obtain⟨w1,hw1⟩:=pE ((w.alloc (.cells #[.slice an ns.length cn,.slice af fs.length cf] 30)).alloc (.cells #[.func (.func 100) #[] #[],.func (.func 101) #[] #[],.func (.func 102) #[] #[],.func (.func 103) #[] #[]] 147));have A1:Below w.heap.size w w1:=by rw[<-hw1];exact((Below.refl _ w).alloc (Nat.le_refl _) _).alloc (by simp) _
 have G0:w1.heap[w.heap.size]? =some (.cells #[.slice an ns.length cn,.slice af fs.length cf] 30 (0,0)):=by rw[<-hw1,Below.heap_alloc _ _ _ (by simp)];exact heap_alloc_new w _
 have G1:w1.heap[w.heap.size+1]? =some (.cells #[.func (.func 100) #[] #[],.func (.func 101) #[] #[],.func (.func 102) #[] #[],.func (.func 103) #[] #[]] 147 (0,0)):=by
  rw[<-hw1];have:=heap_alloc_new (w.alloc (.cells #[.slice an ns.length cn,.slice af fs.length cf] 30)) (.cells #[.func (.func 100) #[] #[],.func (.func 101) #[] #[],.func (.func 102) #[] #[],.func (.func 103) #[] #[]] 147);simpa using this
 obtain⟨n,hnn⟩:=pE (ns.length);obtain⟨m,hmm⟩:=pE (fs.length)
 have HW:Hid (∀(j:Nat) (W:World),j<4->Below w1.heap.size w1 W->(∀i,i<j->Nt.wrongAt ns fs i= [])->∃g,W.cell? ⟨w.heap.size+1,j,none⟩=some (.func (.func g) #[] #[])/\(∀args w,(callFunc g args).run Tryz.prog w=.ok (.enter g args) w)/\Calls Tryz.prog g #[.agg #[.slice an n cn,.slice af m cf]] W λe w'=>Nt.Gives (Nt.wrongAt ns fs j) W e w'):=λj W hj hb hbr=>by
  have hbw:Below w.heap.size w W:=A1.trans (hb.mono A1.size);obtain⟨g,hg,he,hc⟩:=Nt.wrong_call j hj an cn af cf d ns fs W ((hH.below hbw).wider hbw.size) (hO.below hbw hO.lt) hbr;rw[hnn,hmm]at hc;refine⟨g, ?_,he,hc⟩;have hblk:=(hb.block _ (Nt.lt_of G1)).trans G1
  match j,hj,hg with
  |0,_,hg=>simp at hg;subst hg;simp[World.cell?,hblk]
  |1,_,hg=>simp at hg;subst hg;simp[World.cell?,hblk]
  |2,_,hg=>simp at hg;subst hg;simp[World.cell?,hblk]
  |3,_,hg=>simp at hg;subst hg;simp[World.cell?,hblk]
 have HBX:Hid (∀W,Below w1.heap.size w1 W->W.cell? ⟨w.heap.size,0,none⟩=some (.slice an n cn)/\W.cell? ⟨w.heap.size,1,none⟩=some (.slice af m cf)):=λW hb=>by
  have:=Nt.box2 ((hb.block _ (Nt.lt_of G0)).trans G0);rw[hnn,hmm]at this;exact this
 have HLN:Hid (∀j,(Nt.wrongAt ns fs j).length<=101):=Nt.wrong_len hH.nlen hH.flen;rw[hnn,hmm]at hw1;rw[hnn,hmm];obtain⟨p,hp⟩:=pE (Nt.broken ns fs);rw[hp];have HPB:Hid (Nt.broken ns fs=p):=hp;have H1:Hid ((w.alloc (.cells #[.slice an n cn,.slice af m cf] 30)).alloc (.cells #[.func (.func 100) #[] #[],.func (.func 101) #[] #[],.func (.func 102) #[] #[],.func (.func 103) #[] #[]] 147)=w1):=hw1;have HA:Hid (Below w.heap.size w w1):=A1;clear hH hO hnn hmm hp hw1 A1 G0 G1
 go_enter Tryz.func74,Tryz.ntmps74
 go_wp2;rw[H1.out]
 go_loopg [12] 4 (λgk s12 wr=>∃j:Nat,gk+j=4/\s12=.int .i64 j/\Hid (Below w1.heap.size w1 wr/\∀i,i<j->Nt.wrongAt ns fs i= []))
 case atStart=>exact⟨0,by omega,rfl,Below.refl _ _,λi hi=>by omega⟩
 case round=>
  obtain⟨j,hj,rfl,HI⟩:=hrel;clear H1
  by_cases hlt:j<4
  rotate_left
  ·have hd:decide ((j:Int)<4)=false:=decide_eq_false (by omega)
   have hdn:decide (j<4)=false:=decide_eq_false hlt;have HP2:Hid (p=(0, [])):=by show _=_;rw[<-HPB.out];exact Nt.broken_none (λi hi=>HI.out.2 i (by omega))
   go_wp2;go_ret;rw[HP2.out];exact⟨_,rfl,World.ownsRow_nil _ _ _ _,HA.out.trans (HI.out.1.mono HA.out.size)⟩
  have hd:decide ((j:Int)<4)=true:=decide_eq_true (by omega);have hdn:decide (j<4)=true:=decide_eq_true hlt;obtain⟨g,hgc,eg,hcall⟩:=HW.out j wr hlt HI.out.1 HI.out.2;obtain⟨p0,p1⟩:=HBX.out wr HI.out.1;have hj4:(j:Int)<4:=by omega
  have hj0:(0:Int)<=j:=by omega
  have HC:Hid _:=hcall;obtain⟨g1,hg1⟩:=pE (gk);have hwj:IntKind.i64.wrap ((j:Int)+1)=((j+1:Nat):Int):=by rw[IntKind.wrap_i64];omega
  clear hcall
  go_wp2_with fail
  refine Calls.mono HC.out ?_;rintro e W1 ⟨v,rfl,how,hb1⟩;obtain⟨va,vc,rfl,hcs⟩:=Nt.own_cellA how;obtain⟨l,hl⟩:=pE (Nt.wrongAt ns fs j);have B1:Hid (Below w1.heap.size w1 W1):=HI.out.1.trans (hb1.mono HI.out.1.size);have HCS:Hid (∀k x,l[k]? =some x->∃g,va=some ⟨g,0,none⟩/\g<W1.heap.size/\W1.cell? ⟨g,k,none⟩=some (.int .i64 ((x:Nat):Int))):=λk x hk=>hcs k x (by rw[hl];exact hk);have hl100:l.length<=101:=by rw[<-hl];exact HLN.out j
  have HLJ:Hid (Nt.wrongAt ns fs j=l):=hl;rw[hl];obtain⟨r,hr⟩:=pE (l.length);rw[hr]at hl100⊢;have HR:Hid (l.length=r):=hr;clear how hb1 hcs HC hl hr p0 p1 hgc;go_wp2
  go_loopg [6,8,21] r (λgk s6 _ s21 wr=>∃k:Nat,gk+k=r/\s21=.int .i64 k/\Hid (Below W1.heap.size W1 wr)/\wr.ownsRow W1.heap.size 120 2 s6 k (Nt.rows (j+1) (l.take k))/\(k=0->s6=.slice none 0 0))
  case atStart=>exact⟨0,by omega,rfl,Below.refl _ _,by simpa [Nt.rows]using World.ownsRow_nil _ _ _ _,λ_=>rfl⟩
  case round=>
   obtain⟨k,hk,rfl,HJ,hown,hnil⟩:=hrel
   by_cases hlt2:k<r
   ·have hd2:decide ((k:Int)<r)=true:=decide_eq_true (by omega)
    have hkl:k<l.length:=by rw[HR.out];exact hlt2
    obtain⟨gq,rfl,hgq,hcq⟩:=HCS.out k l[k] (List.getElem?_eq_getElem hkl);obtain⟨x,hx⟩:=pE (l[k]);rw[hx]at hcq;have c0:wr.cell? ⟨gq,k,none⟩=some (.int .i64 x):=by rw[HJ.out.cell (p:=⟨gq,k,none⟩) hgq];exact hcq
    have HTK:Hid (Nt.rows (j+1) (l.take (k+1))=Nt.rows (j+1) (l.take k)++ [.int .i64 ((j+1:Nat):Int),.int .i64 (x:Int)]):=by show _=_;rw[Tm.take_snoc _ _ hkl,hx,Nt.rows_snoc]
    obtain⟨av,cv,rfl⟩:=Rk.own_shape hown;have hsz:W1.heap.size<=wr.heap.size:=HJ.out.size;clear hcq hx hgq
    go_wp2_with (at_builtin;refine wpList_append_own _ rfl _ _ 117 rfl W1.heap.size 120 i0 (.agg #[.int .i64 0,.int .i64 0]) 2 16 Tryz.underlying117 hi0 hz0 hz1 hz2 rfl (by decide) _ _ _ rfl (hown.alloc _) ⟨wr.heap.size,0,none⟩ 1 1 [.int .i64 ((j+1:Nat):Int),.int .i64 x] rfl rfl (Nt.two_cell wr ((j+1:Nat):Int) x 120) (Nt.two_one ((j+1:Nat):Int) x) ?c3 ?c4 ?c5 ?_)
    case c3=>unfold maxLen;omega
    case c4=>omega
    case c5=>simp;omega
    intro v' W2 own2 g2 _;obtain⟨a2,c2',rfl⟩:=Rk.own_shape own2;have B2:Hid (Below W1.heap.size W1 W2):=Rk.below_grown (HJ.out.alloc hsz _) (by simp;omega) (hown.alloc _) g2;have own3:W2.ownsRow W1.heap.size 120 2 (.slice a2 (k+1) c2') (k+1) (Nt.rows (j+1) (l.take (k+1))):=by rw[HTK.out];exact own2
    clear own2 g2 hown;go_wp2;go_roundg (gk-1)
    case measure=>omega
    case rel=>exact⟨k+1,by omega,by go_num,B2.out,own3,λh=>by omega⟩
   have hd2:decide ((k:Int)<r)=false:=decide_eq_false (by omega);have hkr:k=r:=by omega
   have htk:l.take k=l:=List.take_of_length_le (by rw[HR.out];omega);rw[htk]at hown;have B3:Hid (Below w1.heap.size w1 wr):=B1.out.trans (HJ.out.mono B1.out.size)
   rcases Nat.eq_zero_or_pos k with hk0|hkp
   ·have hv:=hnil hk0
    have HE:Hid (Nt.wrongAt ns fs j= []):=by
     show _=_;rw[HLJ.out];exact List.eq_nil_of_length_eq_zero (by rw[HR.out];omega)
    clear hown hnil htk;subst hv;go_wp2;go_roundg (g1-1)
    case measure=>omega
    case rel=>
     refine⟨j+1,by omega,by go_num,B3.out,λi hi=> ?_⟩
     rcases Nat.lt_or_ge i j with h|h
     ·exact HI.out.2 i h
     obtain rfl:i=j:=by omega
     exact HE.out
   obtain⟨gv,cv,rfl⟩:=Nt.own_nil hown hkp
   have HP2:Hid (p=(j+1,l)):=by
    show _=_;rw[<-HPB.out,Nt.broken_at hlt HI.out.2 (by rw[HLJ.out];intro h;have:=HR.out;rw[h]at this;simp at this;omega),HLJ.out]
   have HO2:Hid (wr.ownsRow w.heap.size 120 2 (.slice (some ⟨gv,0,none⟩) k cv) l.length (Nt.rows (j+1) l)):=by
    show World.ownsRow _ _ _ _ _ _ _;have h:=Nt.own_lower hown (Nat.le_trans HA.out.size B1.out.size);rw[hkr]at h⊢;rw[HR.out];exact h
   clear hown hnil htk;go_wp2;go_ret;rw[HP2.out];exact⟨_,rfl,HO2.out,HA.out.trans (B3.out.mono HA.out.size)⟩
theorem Nt.broken_zero {ns:List Nd}{fs:List Fl}(h:(Nt.broken ns fs).2= []):(Nt.broken ns fs).1=0:=by
 unfold Nt.broken at h⊢
 split
 ·next h1=>rw[if_pos h1]at h;simp only at h;rw[h]at h1;simp at h1
 next h1=>
 rw[if_neg h1]at h
 split
 ·next h2=>rw[if_pos h2]at h;simp only at h;rw[h]at h2;simp at h2
 next h2=>
 rw[if_neg h2]at h
 split
 ·next h3=>rw[if_pos h3]at h;simp only at h;rw[h]at h3;simp at h3
 next h3=>
 rw[if_neg h3]at h
 split
 ·next h4=>rw[if_pos h4]at h;simp only at h;rw[h]at h4;simp at h4
 rfl
theorem Nt.own_pair {w:World}{B:Nat}{g c r:Nat}{l:List Nat}{n:Nat}(h:w.ownsRow B 120 2 (.slice (some ⟨g,0,none⟩) n c) l.length (Nt.rows r l))(j:Nat)(x:Nat)(hx:l[j]? =some x):w.cell? ⟨g,j*2,none⟩=some (.int .i64 (r:Int))/\w.cell? ⟨g,j*2+1,none⟩=some (.int .i64 (x:Int)):=by
 have hj:=(List.getElem?_eq_some_iff.1 hx).1
 rcases h.2 with⟨hv,_⟩|⟨g',cap,cur,hv,_,hg,h1,_,_,h2⟩
 ·simp at hv
 simp only[Value.slice.injEq,Option.some.injEq,Addr.mk.injEq,and_true]at hv;obtain⟨rfl,rfl,rfl⟩:=hv
 have hget:∀k,k<l.length*2->cur[k]? =(Nt.rows r l)[k]? :=λk hk=>by
  rw[<-h2,List.getElem?_take_of_lt hk,Array.getElem?_toList]
 have hrow:∀(l:List Nat) (j x:Nat),l[j]? =some x->(Nt.rows r l)[j*2]? =some (.int .i64 (r:Int))/\(Nt.rows r l)[j*2+1]? =some (.int .i64 (x:Int)):=by
  intro l
  induction l with
  |nil=>intro j x h;simp at h
  |cons a l ih=>
   intro j x h
   cases j with
   |zero=>simp at h;subst h;simp[Nt.rows]
   |succ j=>
    have:=ih j x (by simpa using h);have e:Nt.rows r (a::l)=.int .i64 (r:Int)::.int .i64 (a:Int)::Nt.rows r l:=by simp[Nt.rows]
    rw[e,show(j+1)*2=j*2+1+1 by omega,show j*2+1+1+1=(j*2+1)+1+1 by omega];simpa using this
 obtain⟨q0,q1⟩:=hrow l j x hx;unfold World.cell?;rw[hg];exact⟨(hget (j*2) (by omega)).trans q0,(hget (j*2+1) (by omega)).trans q1⟩
theorem Tryz.nCheck_any (an:Option Addr)(cn:Nat)(af:Option Addr)(cf d:Nat)(ns:List Nd)(fs:List Fl)(w:World)(hH:Nt.Has w w.heap.size d an af ns fs)(hO:Tk.Ops w):
  Calls Tryz.prog 49 #[.agg #[.slice an ns.length cn,.slice af fs.length cf]] w λe w'=>e=.returned (.tuple #[.int .i64 ((Nt.checkN ns fs).1:Int),.int .i64 ((Nt.checkN ns fs).2:Int)])/\Below w.heap.size w w':=by
 have A1:Below w.heap.size w (w.alloc (.cells #[.slice an ns.length cn,.slice af fs.length cf] 30)):=(Below.refl _ w).alloc (Nat.le_refl _) _;have h:=Tryz.nAll_any an cn af cf d ns fs _ ((hH.below A1).wider A1.size) (hO.below A1 hO.lt);obtain⟨n,hnn⟩:=pE (ns.length);obtain⟨m,hmm⟩:=pE (fs.length);have hck:Nt.checkN ns fs=((Nt.broken ns fs).1,(Nt.broken ns fs).2.headD 0):=rfl;have hz:(Nt.broken ns fs).2= []->(Nt.broken ns fs).1=0:=Nt.broken_zero;obtain⟨p,hp⟩:=pE (Nt.broken ns fs);rw[hp]at h hck hz;rw[hck];rw[hnn,hmm]at h A1⊢;obtain⟨r,l⟩:=p;have HC:Hid _:=h;have HA:Hid _:=A1;have HZ:Hid (l= []->r=0):=hz;clear h A1 hck hz hp hH hO hnn hmm
 go_enter Tryz.func49,Tryz.ntmps49
 go_wp2_with fail
 refine Calls.mono HC.out ?_;rintro e W ⟨v,rfl,how,hb⟩;have B2:Hid (Below w.heap.size w W):=HA.out.trans (hb.mono HA.out.size);clear hb HC;obtain⟨av,cv,rfl⟩:=Rk.own_shape how
 cases l with
 |nil=>
  have hr:=HZ.out rfl;subst hr;clear how;go_wp2;go_ret2;exact⟨rfl,B2.out⟩
 |cons x l=>
  obtain⟨g,c,hv⟩:=Nt.own_nil how (by simp);simp only[Value.slice.injEq]at hv;obtain⟨rfl,-,rfl⟩:=hv;obtain⟨c0,c1⟩:=Nt.own_pair how 0 x rfl;simp only[Nat.zero_mul,Nat.zero_add]at c0 c1;have hlen:(x::l).length=l.length+1:=rfl;rw[hlen];obtain⟨k,hk⟩:=pE (l.length);rw[hk];have e0:(((k+1:Nat):Int)==0)=false:=by simp;omega
  have hb0:(0:Int)<((k+1:Nat):Int):=by omega
  have BD:Hid (∀q,Below w.heap.size w (W.drewN q)):=λq=>Tk.below_drewN B2.out q;show _;clear how hlen hk HZ
  go_upto_region 4 with fail
  go_quiet (fail)
  go_wp2;go_ret2;exact⟨rfl,BD.out _⟩
end Go.Proofs
