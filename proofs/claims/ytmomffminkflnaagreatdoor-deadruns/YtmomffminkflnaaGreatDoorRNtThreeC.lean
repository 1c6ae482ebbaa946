import Derived.Test.YtmomffminkflnaaGreatDoorRNtThreeX
set_option maxRecDepth 100000
set_option maxHeartbeats 32000000
namespace Go.Proofs
open Go.RowKit Go.Shelf
theorem Nt.al {a w:World} (h:Below a.heap.size a w)(o:Obj):Below a.heap.size a(w.alloc o):=h.alloc h.size o
theorem Nt.dr {a w:World} (h:Below a.heap.size a w):Below a.heap.size a w.drew:=h.drew
theorem Nt.st {a w:World} (h:Below a.heap.size a w)(g o:Nat)(v:Value)(hg:a.heap.size<=g):Below a.heap.size a(w.setCell⟨g,o,none⟩v):=h.setCell(p:=⟨g,o,none⟩)hg v
theorem Nt.cn(w:World)(v:Value)(t:TypeId)(b:Nat)(hb:b=w.heap.size):(w.alloc(.cells #[v]t)).cell? ⟨b,0,none⟩=some v:=by
 subst hb;have:=heap_alloc_new w(.cells #[v]t);unfold World.cell?;rw [this];rfl
theorem Nt.co {w:World} {b:Nat} {v:Value} (o:Obj)(hb:b<w.heap.size)(h:w.cell? ⟨b,0,none⟩=some v):(w.alloc o).cell? ⟨b,0,none⟩=some v:=
 (World.cell?_of_block(w:=w)(Below.heap_alloc _ _ _ hb)).trans h
theorem Nt.ss {w:World} {b:Nat} {v:Value} (u:Value)(h:w.cell? ⟨b,0,none⟩=some u):(w.setCell⟨b,0,none⟩v).cell? ⟨b,0,none⟩=some v:=by
 unfold World.cell? at*;simp only [World.setCell,Array.getElem?_modify]
 cases hb:w.heap[b]? with
 |none=>simp [hb]at h
 |some o=>
  cases o with
  |cells cs t fz=>
   simp [hb]at h⊢;have:0<cs.size:=(Array.getElem?_eq_some_iff.1 h).1;simp [this]
  |_=>simp [hb]at h
theorem Nt.so {w:World} {b c:Nat} {v u:Value} (hne:b≠c)(h:w.cell? ⟨b,0,none⟩=some u):(w.setCell⟨c,0,none⟩v).cell? ⟨b,0,none⟩=some u:=
 (World.cell?_of_block(w:=w)(Below.heap_setCell _ _ _ _ hne)).trans h
def Nt.Old(W w':World):Prop:=(∀b o,b<W.heap.size->w'.cell? ⟨b,o,none⟩=W.cell? ⟨b,o,none⟩)/\(∀b o,b<W.heap.size->w'.frozen? ⟨b,o,none⟩=W.frozen? ⟨b,o,none⟩)/\W.heap.size<=w'.heap.size
theorem Nt.Old.of {W w':World} (h:Below W.heap.size W w'):Nt.Old W w':=
 ⟨λb o hb=>h.cell(p:=⟨b,o,none⟩)hb,λb o hb=>by have:=h.block b hb;simp [World.frozen?,this],h.size⟩
theorem Tryz.wrongJoints_any(an:Option Addr)(cn:Nat)(af:Option Addr)(cf d:Nat)(ns:List Nd)(fs:List Fl)(w:World)(hH:Nt.Has w w.heap.size d an af ns fs)(hn:ns.length<=24)(hto: ∀f,f∈fs->0<=f.to/\f.to<ns.length):
  Calls Tryz.prog 111 #[.agg #[.slice an ns.length cn, .slice af fs.length cf]]w λe w'=>Nt.Gives(Nt.wrong3 ns fs)w e w':=by
 obtain⟨i0,hi0,hz0,hz1,hz2⟩:=info_parts Tryz.infoIntR;obtain⟨w1,hw1⟩: ∃x,w.alloc(.cells #[.slice an ns.length cn, .slice af fs.length cf]30)=x:=⟨_,rfl⟩;have A1:Below w.heap.size w w1:=by rw [<-hw1];exact(Below.refl _ w).alloc(Nat.le_refl _)_
 have C0:w1.heap[w.heap.size]? =some(.cells #[.slice an ns.length cn, .slice af fs.length cf]30(0,0)):=by rw [<-hw1];exact heap_alloc_new w _
 have hc:=Tryz.count_any an ns.length cn af cf d fs w1((hH.fls.below A1).wider A1.size)hH.flen hn;obtain⟨n,hnn⟩: ∃n,ns.length=n:=⟨_,rfl⟩;obtain⟨m,hmm⟩: ∃n,fs.length=n:=⟨_,rfl⟩;obtain⟨l,hl⟩: ∃l,(List.range ns.length).filter(λi=> !Nt.jointB ns fs i)=l:=⟨_,rfl⟩;obtain⟨s,hs⟩: ∃z,Nt.firstI ns 1=z:=⟨_,rfl⟩;obtain⟨en,hen⟩: ∃z,Nt.firstI ns 2=z:=⟨_,rfl⟩
 have HP:Hid(∀(w2:World)(cs:Array Value)(bj bs be:Nat),Below w1.heap.size w1 w2->Nt.Joints cs fs n->w2.heap[bj]? =some(.cells cs 181(0,0))->bs<w2.heap.size->be<w2.heap.size->w2.cell? ⟨bs,0,none⟩=some(.int .i64 s)->w2.cell? ⟨be,0,none⟩=some(.int .i64 en)->
   Calls Tryz.prog 132 #[.int .i64 n, .func(.func 141) #[] #[.pointer(some⟨w.heap.size,0,none⟩), .pointer(some⟨bs,0,none⟩), .pointer(some⟨be,0,none⟩), .pointer(some⟨bj,0,none⟩)]]w2 λe w'=> ∃v,e= .returned v/\w'.ownsRow w2.heap.size 3 1 v l.length(Rk.nums l)/\Below w2.heap.size w2 w'):=λw2 cs bj bs be hb2 hJ hbj hbs hbe hcs hce=>by
  have hb1:Below w.heap.size w w2:=A1.trans(hb2.mono A1.size)
  have h:=Tryz.places_any(λi=> !Nt.jointB ns fs i)141 #[.pointer(some⟨w.heap.size,0,none⟩), .pointer(some⟨bs,0,none⟩), .pointer(some⟨be,0,none⟩), .pointer(some⟨bj,0,none⟩)]Nt.enters_joints ns.length w2(λW k hk hb=>by
   have hbw:Below w.heap.size w W:=hb1.trans(hb.mono hb1.size)
   exact Tryz.joints1_any k w.heap.size bj bs be an cn af cf w.heap.size d ns fs cs W(hH.below hbw)hbw.size hk hn hto(by rw [hnn];exact hJ)
    ⟨by rw [(hb2.trans(hb.mono hb2.size)).block _(Nt.lt_of C0)];exact C0,by rw [hb.block _(Nt.lt_of hbj)];exact hbj⟩(by rw [hb.cell(p:=⟨bs,0,none⟩)hbs,hs];exact hcs)(by rw [hb.cell(p:=⟨be,0,none⟩)hbe,hen];exact hce))(by omega)
  rw [hl,hnn]at h;exact h
 have HBX:Hid(∀w2,Below w1.heap.size w1 w2->w2.cell? ⟨w.heap.size,0,none⟩=some(.slice an n cn)/\w2.cell? ⟨w.heap.size,1,none⟩=some(.slice af m cf)):=λw2 hb=>by
  have:=Nt.box2((hb.block _(Nt.lt_of C0)).trans C0);rw [hnn,hmm]at this;exact this
 have HST:Hid(∀W,Below w1.heap.size w1 W->Calls Tryz.prog 139 #[.agg #[.slice an n cn, .slice af m cf]]W λe w'=>e= .returned(.int .i64 s)/\Hid(Below W.heap.size W w')):=λW hb=>by
  have hbw:Below w.heap.size w W:=A1.trans(hb.mono A1.size);have h:=Tryz.nStart_any an cn d af m cf ns W((hH.nds.below hbw).wider hbw.size)hH.nlen;rw [hs,hnn]at h;exact h
 have HEN:Hid(∀W,Below w1.heap.size w1 W->Calls Tryz.prog 140 #[.agg #[.slice an n cn, .slice af m cf]]W λe w'=>e= .returned(.int .i64 en)/\Hid(Below W.heap.size W w')):=λW hb=>by
  have hbw:Below w.heap.size w W:=A1.trans(hb.mono A1.size);have h:=Tryz.nEnd_any an cn d af m cf ns W((hH.nds.below hbw).wider hbw.size)hH.nlen;rw [hen,hnn]at h;exact h
 obtain⟨l3,hl3⟩: ∃z,Nt.wrong3 ns fs=z:=⟨_,rfl⟩;have HL3:Hid(l3=l++if(decide(s<0)||decide(en<0))=true then [n]else []):=by show _=_;rw [<-hl3,Nt.wrong3,hl,Nt.lostB,hs,hen,hnn]
 have HLL:Hid(l.length<=24):=by
  show _<=_;rw [<-hl];have:=List.length_filter_le(λi=> !Nt.jointB ns fs i)(List.range ns.length);rw [List.length_range]at this;omega
 rw [hnn,hmm]at hc hw1;rw [hl3,hnn,hmm];have HC:Hid _:=hc;have H1:Hid(w.alloc(.cells #[.slice an n cn, .slice af m cf]30)=w1):=hw1;have HA:Hid(Below w.heap.size w w1):=A1;have HWS:Hid(w.heap.size<w1.heap.size):=Nt.lt_of C0;have hn24:n<=24:=by omega
 clear hc hH hn hto hnn hmm hl hl3 hs hen hw1 A1 C0
 go_enter Tryz.func111,Tryz.ntmps111
 go_wp2_with fail
 rw [H1.out];refine Calls.mono HC.out ?_;rintro e W1⟨cs,rfl,hJ,hb⟩;have B1:Hid(Below w1.heap.size w1 W1):=hb;have HJ:Hid(Nt.Joints cs fs n):=hJ;have hi:(Tryz.prog.info? 181).map(·.size)=some cs.size:=by rw [hJ.1];kernel_rfl
 have hi1:Tryz.zeroCells181.size=cs.size:=by rw [hJ.1];kernel_rfl
 obtain⟨w2,hw2⟩: ∃x,(W1.alloc(.cells Tryz.zeroCells181 181)).setRow W1.heap.size cs=x:=⟨_,rfl⟩;have HN:Hid _:=Nt.arr_new W1 w2 cs hw2;have HW2:Hid((W1.alloc(.cells Tryz.zeroCells181 181)).setRow W1.heap.size cs=w2):=hw2;have B2:Hid(Below w1.heap.size w1 w2):=B1.out.trans(HN.out.2.1.mono B1.out.size);have HZ:Hid _:=heap_alloc_new W1(.cells Tryz.zeroCells181 181);have BR:Hid(Below w2.heap.size w2 w2):=Below.refl _ _;have CF:Hid(∀W,Below w2.heap.size w2 W->W.cell? ⟨w.heap.size,0,none⟩=some(.slice an n cn)/\W.cell? ⟨w.heap.size,1,none⟩=some(.slice af m cf)):=λW hb=>HBX.out W(B2.out.trans(hb.mono B2.out.size));have CS:Hid(∀W,Below w2.heap.size w2 W->Calls Tryz.prog 139 #[.agg #[.slice an n cn, .slice af m cf]]W λe w'=>e= .returned(.int .i64 s)/\Hid(Below w2.heap.size w2 w')/\Nt.Old W w'):=λW hb=>(HST.out W(B2.out.trans(hb.mono B2.out.size))).mono λe w' h=>⟨h.1,hb.trans(h.2.out.mono hb.size),Nt.Old.of h.2.out⟩;have CE:Hid(∀W,Below w2.heap.size w2 W->Calls Tryz.prog 140 #[.agg #[.slice an n cn, .slice af m cf]]W λe w'=>e= .returned(.int .i64 en)/\Hid(Below w2.heap.size w2 w')/\Nt.Old W w'):=λW hb=>(HEN.out W(B2.out.trans(hb.mono B2.out.size))).mono λe w' h=>⟨h.1,hb.trans(h.2.out.mono hb.size),Nt.Old.of h.2.out⟩;clear hb hJ HC hw2 HST HEN
 go_upto_region 2 with(refine wpList_store_row rfl 181 _ _ rfl W1.heap.size cs rfl rfl 181 Tryz.zeroCells181(by exact HZ.out)hi hi1 HJ.out.2.1 ?_;rw [HW2.out])
 simp only [Act.put]
 go_cut [4,5](λs4 s5 wx=> ∃bs be:Nat,s4= .pointer(some⟨bs,0,none⟩)/\s5= .pointer(some⟨be,0,none⟩)/\Hid(Below w2.heap.size w2 wx/\bs<wx.heap.size/\be<wx.heap.size/\wx.cell? ⟨bs,0,none⟩=some(.int .i64 s)/\wx.cell? ⟨be,0,none⟩=some(.int .i64 en)))
 case first=>
  have hws:w.heap.size<w2.heap.size:=Nat.lt_of_lt_of_le HWS.out B2.out.size;clear HP HBX HJ HN HZ HW2 B1 B2 HLL HL3 HA HWS hi hi1 hi0 hz0 hz1 hz2 hn24 H1
  go_region_held3(λW=>W.cell? ⟨w.heap.size,0,none⟩=some(.slice an n cn)/\W.cell? ⟨w.heap.size,1,none⟩=some(.slice af m cf))
   (first|(refine CF.out _ ?_;(repeat(first|exact B4.out|exact B3.out|exact BR.out|apply Nt.al|apply Nt.dr|(refine Nt.st ?_ _ _ _(by first|omega|(simp;omega)|(have:=B3.out.size;omega)))))))
   (first
   |(go_simp;go_at_call 139;refine Calls.mono(CS.out _ ?_) ?_;(repeat(first|exact B4.out|exact B3.out|exact BR.out|apply Nt.al|apply Nt.dr|(refine Nt.sr ?_ _ _(by first|omega|(simp;omega)|(simp)))));rintro e W3⟨rfl,B3,z3,y3,s3⟩;have g3:=(CF.out W3 B3.out).1;have g4:=(CF.out W3 B3.out).2;have gq3:w.heap.size<W3.heap.size:=Nat.lt_of_lt_of_le hws B3.out.size;have q3: ∀b,b<_->b<W3.heap.size:=λb hb=>Nat.lt_of_lt_of_le hb s3;(try simp at s3);(first|(have q3a:w2.heap.size<W3.heap.size:=by omega)|skip);(first|(have q3b:w2.heap.size+1<W3.heap.size:=by omega)|skip);clear s3)
   |(go_simp;go_at_call 140;refine Calls.mono(CE.out _ ?_) ?_;(repeat(first|exact B4.out|exact B3.out|exact BR.out|apply Nt.al|apply Nt.dr|(refine Nt.sr ?_ _ _(by first|omega|(simp;omega)|(simp)))));rintro e W4⟨rfl,B4,z4,y4,s4⟩;have g5:=(CF.out W4 B4.out).1;have g6:=(CF.out W4 B4.out).2;have gq4:w.heap.size<W4.heap.size:=Nat.lt_of_lt_of_le hws B4.out.size;have q4: ∀b,b<_->b<W4.heap.size:=λb hb=>Nat.lt_of_lt_of_le hb s4;(try simp at s4);(first|(have q4a:w2.heap.size<W4.heap.size:=by omega)|skip);(first|(have q4b:w2.heap.size+1<W4.heap.size:=by omega)|skip);(first|(have q4c:W3.heap.size<W4.heap.size:=by omega)|skip);(first|(have q4d:W3.heap.size+1<W4.heap.size:=by omega)|skip);clear s4))
  all_goals
   go_wp2_with fail
   go_meet;refine⟨_,_,rfl,rfl, ?_, ?_, ?_, ?_, ?_⟩
   ·(repeat(first|exact B4.out|exact B3.out|exact BR.out|apply Nt.al|apply Nt.dr|(refine Nt.st ?_ _ _ _(by first|omega|(simp;omega)|(have:=B3.out.size;omega)))))
   ·(first|assumption|omega|(simp;done)|(simp;omega)|(simp [*];done))
   ·(first|assumption|omega|(simp;done)|(simp;omega)|(simp [*];done))
   ·(repeat(first|assumption|exact Nt.cn _ _ _ _(by first|omega|(simp;done)|(simp;omega))|(refine Nt.co _(by first|omega|(simp;done)|(simp;omega)) ?_)|(refine Nt.ss(.int .i64 0) ?_)|(refine Nt.so(by first|omega|(simp;done)|(simp;omega)) ?_)|(refine(z4 _ _(by first|omega|(simp;done)|(simp;omega))).trans ?_)|(refine(z3 _ _(by first|omega|(simp;done)|(simp;omega))).trans ?_)))
   (repeat(first|assumption|exact Nt.cn _ _ _ _(by first|omega|(simp;done)|(simp;omega))|(refine Nt.co _(by first|omega|(simp;done)|(simp;omega)) ?_)|(refine Nt.ss(.int .i64 0) ?_)|(refine Nt.so(by first|omega|(simp;done)|(simp;omega)) ?_)|(refine(z4 _ _(by first|omega|(simp;done)|(simp;omega))).trans ?_)|(refine(z3 _ _(by first|omega|(simp;done)|(simp;omega))).trans ?_)))
 case rest=>
 rename World=>wc;obtain⟨bs,be,rfl,rfl,HG⟩:=hcut;have BC:Hid(Below w1.heap.size w1 wc):=B2.out.trans(HG.out.1.mono B2.out.size);obtain⟨p0,p1⟩:=HBX.out wc BC.out
 have HK:Hid(wc.heap[W1.heap.size]? =some(.cells cs 181(0,0))):=by
  show _=_;rw [HG.out.1.block _(Nt.lt_of HN.out.1)];exact HN.out.1
 clear CS CE CF BR
 go_wp2_with fail
 refine Calls.mono(HP.out wc cs W1.heap.size bs be BC.out HJ.out HK.out HG.out.2.1 HG.out.2.2.1 HG.out.2.2.2.1 HG.out.2.2.2.2) ?_;rintro e W5⟨v,rfl,how,hb5⟩;have B5:Hid(Below w1.heap.size w1 W5):=BC.out.trans(hb5.mono BC.out.size);have c1:W5.cell? ⟨bs,0,none⟩=some(.int .i64 s):=by rw [hb5.cell(p:=⟨bs,0,none⟩)HG.out.2.1];exact HG.out.2.2.2.1
 have c2:W5.cell? ⟨be,0,none⟩=some(.int .i64 en):=by rw [hb5.cell(p:=⟨be,0,none⟩)HG.out.2.2.1];exact HG.out.2.2.2.2
 obtain⟨x0,x1⟩:=HBX.out W5 B5.out;have how1:W5.ownsRow w.heap.size 3 1 v l.length(Rk.nums l):=Nt.own_lower how(Nat.le_trans HA.out.size BC.out.size);obtain⟨av,cv,rfl⟩:=Rk.own_shape how1;have BW:Hid(Below w.heap.size w W5):=HA.out.trans(B5.out.mono HA.out.size);have hsz5:w.heap.size<=W5.heap.size:=BW.out.size;have hr24:l.length<=24:=HLL.out;clear hb5 HP how p0 p1
 by_cases hlost:s<0∨en<0
 ·have HL4:Hid(l3=l++ [n]):=by
   show _=_;rw [HL3.out,if_pos(by simp;exact hlost)]
  obtain h1|⟨h1,h2⟩:decide(s<0)=true∨(decide(s<0)=false/\decide(en<0)=true):=by simp;omega
  all_goals
   clear hlost HL3
   go_wp2_with(at_builtin;refine wpList_append_own _ rfl _ _ 51 rfl w.heap.size 3 i0(.int .i64 0)1 8 Tryz.underlying51 hi0 hz0 hz1 hz2 rfl(by decide)_ _ _ rfl(how1.alloc _)⟨W5.heap.size,0,none⟩1 1 [.int .i64 n]rfl rfl(Rk.one_cell W5 n 3)(Rk.one_one n) ?c3 ?c4 ?c5 ?_)
   case c3=>unfold maxLen;omega
   case c4=>omega
   case c5=>simp;omega
   intro v' W6 own2 g2 _;obtain⟨a2,c2',rfl⟩:=Rk.own_shape own2;have B6:Hid(W6.ownsRow w.heap.size 3 1(.slice a2(l.length+1)c2')(l++ [n]).length(Rk.nums(l++ [n]))/\Below w.heap.size w W6):=⟨by rw [Rk.nums_snoc,List.length_append];exact own2,Rk.below_grown(BW.out.alloc hsz5 _)(by simp;omega)(how1.alloc _)g2⟩;clear own2 g2 how1;go_wp2;go_ret;rw [HL4.out];exact⟨_,rfl,B6.out.1,B6.out.2⟩
 have HL4:Hid(l3=l):=by
  show _=_;rw [HL3.out,if_neg(by simp;omega),List.append_nil]
 have h1:decide(s<0)=false:=decide_eq_false(by omega);have h2:decide(en<0)=false:=decide_eq_false(by omega);have B6:Hid(W5.ownsRow w.heap.size 3 1(.slice av l.length cv)l.length(Rk.nums l)):=how1;clear hlost HL3 how1;go_wp2;go_ret;rw [HL4.out];exact⟨_,rfl,B6.out,BW.out⟩
def Nt.Bt(w:World)(g:Nat)(bs:List Bool):Prop:=w.heap[g]? =some(.cells(bs.map Value.bool).toArray 116(0,0))
theorem Nt.Bt.lt {w:World} {g:Nat} {bs:List Bool} (h:Nt.Bt w g bs):g<w.heap.size:=(Array.getElem?_eq_some_iff.1 h).1
theorem Nt.Bt.cell {w:World} {g:Nat} {bs:List Bool} (h:Nt.Bt w g bs)(j:Nat)(b:Bool)(hj:bs[j]? =some b):w.cell? ⟨g,j,none⟩=some(.bool b):=by
 unfold Nt.Bt at h;simp [World.cell?,h,hj]
theorem Nt.Bt.frozen {w:World} {g:Nat} {bs:List Bool} (h:Nt.Bt w g bs)(j:Nat):w.frozen? ⟨g,j,none⟩=false:=by
 unfold Nt.Bt at h;simp [World.frozen?,h]
theorem Nt.Bt.put {w:World} {g:Nat} {bs:List Bool} (h:Nt.Bt w g bs)(j:Nat)(b:Bool):Nt.Bt(w.setCell⟨g,j,none⟩(.bool b))g(bs.set j b):=by
 unfold Nt.Bt at*;simp [World.setCell,Array.getElem?_modify,h]
theorem Nt.Bt.keep {w w':World} {g:Nat} {bs:List Bool} (h:Nt.Bt w g bs)(hk:w'.heap[g]? =w.heap[g]?):Nt.Bt w' g bs:=by unfold Nt.Bt;rw [hk];exact h
theorem Nt.set_or {bs:List Bool} {y:Nat} {bx b:Bool} (hy:bs[y]? =some b):bs.set y(b||bx)=if bx=true then bs.set y true else bs:=by
 obtain⟨hl,he⟩:=List.getElem?_eq_some_iff.1 hy
 cases bx<;>cases b<;>simp
 ·rw [<-he];exact List.set_getElem_self hl
 rw [<-he];exact List.set_getElem_self hl
theorem Rk.drop_at' {α:Type} (l:List α)(k:Nat)(h:k<l.length):l.drop k=l[k]::l.drop(k+1):=List.drop_eq_getElem_cons h
structure Nt.Sw(w:World)(box:Array Value)(ah bk:List Bool)(W:World):Prop where
 below:Below w.heap.size w W
 box:W.heap[w.heap.size]? =some(.cells box 30(0,0))
 ah:Nt.Bt W(w.heap.size+1)ah
 bk:Nt.Bt W(w.heap.size+1+1)bk
theorem Nt.Sw.next {w:World} {box:Array Value} {ah bk:List Bool} {W W':World} (h:Nt.Sw w box ah bk W)(hb:Below W.heap.size W W'):Nt.Sw w box ah bk W':=
 ⟨h.below.trans(hb.mono h.below.size),by rw [hb.block _(Nt.lt_of h.box)];exact h.box,h.ah.keep(hb.block _ h.ah.lt),h.bk.keep(hb.block _ h.bk.lt)⟩
theorem Nt.Sw.alloc {w:World} {box:Array Value} {ah bk:List Bool} {W:World} (h:Nt.Sw w box ah bk W)(o:Obj):Nt.Sw w box ah bk(W.alloc o):=h.next((Below.refl _ W).alloc(Nat.le_refl _)o)
theorem Nt.Sw.drew {w:World} {box:Array Value} {ah bk:List Bool} {W:World} (h:Nt.Sw w box ah bk W):Nt.Sw w box ah bk W.drew:=h.next(Below.refl _ W).drew
theorem Nt.Sw.put1 {w:World} {box:Array Value} {ah bk:List Bool} {W:World} (h:Nt.Sw w box ah bk W)(j:Nat)(b:Bool):Nt.Sw w box(ah.set j b)bk(W.setCell⟨w.heap.size+1,j,none⟩(.bool b)):=
 ⟨h.below.setCell(p:=⟨w.heap.size+1,j,none⟩)(by show w.heap.size<=w.heap.size+1;omega)_,by rw [Below.heap_setCell _ _ _ _(by show w.heap.size≠w.heap.size+1;omega)];exact h.box,h.ah.put j b,h.bk.keep(Below.heap_setCell _ _ _ _(by show w.heap.size+1+1≠w.heap.size+1;omega))⟩
theorem Nt.Sw.put2 {w:World} {box:Array Value} {ah bk:List Bool} {W:World} (h:Nt.Sw w box ah bk W)(j:Nat)(b:Bool):Nt.Sw w box ah(bk.set j b)(W.setCell⟨w.heap.size+1+1,j,none⟩(.bool b)):=
 ⟨h.below.setCell(p:=⟨w.heap.size+1+1,j,none⟩)(by show w.heap.size<=w.heap.size+1+1;omega)_,by rw [Below.heap_setCell _ _ _ _(by show w.heap.size≠w.heap.size+1+1;omega)];exact h.box,h.ah.keep(Below.heap_setCell _ _ _ _(by show w.heap.size+1≠w.heap.size+1+1;omega)),h.bk.put j b⟩
theorem Nt.enters_stray: ∀args w,(callFunc 143 args).run Tryz.prog w= .ok(.enter 143 args)w:=enters_of Tryz.func143(by kernel_rfl)rfl
theorem Tryz.stray1_any(i b1 b2:Nat)(x y:Bool)(w:World)(hi:i<24)(c1:w.cell? ⟨b1,i,none⟩=some(.bool x))(c2:w.cell? ⟨b2,i,none⟩=some(.bool y)):
  Calls Tryz.prog 143 #[.int .i64 i, .pointer(some⟨b1,0,none⟩), .pointer(some⟨b2,0,none⟩)]w λe w'=>e= .returned(.bool(!(x&&y)))/\Below w.heap.size w w':=by
 have hi':(i:Int)<24:=by omega
 have hi0:(0:Int)<=i:=by omega
 have BR:Hid(Below w.heap.size w w):=Below.refl _ _;have BD:Hid(∀j,Below w.heap.size w(w.drewN j)):=λj=>Tk.below_drewN(Below.refl _ w)j
 cases x
 all_goals
  go_enter Tryz.func143,Tryz.ntmps143
  go_wp2;go_ret;exact⟨Tk.ret_bool(by simp),by first|exact BR.out|exact BD.out _⟩
theorem Nt.marks_zero:(#[.bool false, .bool false, .bool false, .bool false, .bool false, .bool false, .bool false, .bool false, .bool false, .bool false, .bool false, .bool false, .bool false, .bool false, .bool false, .bool false, .bool false, .bool false, .bool false, .bool false, .bool false, .bool false, .bool false, .bool false]:Array Value)=((List.replicate 24 false).map Value.bool).toArray:=by kernel_rfl
theorem Tryz.strayNodes_any(an:Option Addr)(cn:Nat)(af:Option Addr)(cf d:Nat)(ns:List Nd)(fs:List Fl)(w:World)(hH:Nt.Has w w.heap.size d an af ns fs)(hn24:ns.length<=24)(hes: ∀f,f∈fs->0<=f.fr/\f.fr<ns.length/\0<=f.to/\f.to<ns.length)(hs0:0<=Nt.firstI ns 1)(he0:0<=Nt.firstI ns 2):
  Calls Tryz.prog 112 #[.agg #[.slice an ns.length cn, .slice af fs.length cf]]w λe w'=>Nt.Gives(Nt.wrong4 ns fs)w e w':=by
 obtain⟨s,hs⟩: ∃s:Nat,Nt.firstI ns 1=s:=⟨(Nt.firstI ns 1).toNat,by omega⟩;obtain⟨t,ht⟩: ∃s:Nat,Nt.firstI ns 2=s:=⟨(Nt.firstI ns 2).toNat,by omega⟩;have hsn:s<ns.length:=by have:=Nt.firstI_lt ns 1;omega
 have htn:t<ns.length:=by have:=Nt.firstI_lt ns 2;omega
 obtain⟨es,hE⟩: ∃l,Nt.edges fs=l:=⟨_,rfl⟩;have hel:=Nt.edges_lt hes;rw [hE]at hel;have hA:=Nt.sweeps_long hel hsn hn24;have hB:=Nt.sweeps_long(Nt.back_lt hel)htn hn24
 have HES:Hid(∀k(h:k<fs.length),∃x y:Nat,x<ns.length/\y<ns.length/\fs[k].fr=x/\fs[k].to=y/\es[k]? =some(x,y)):=λk hk=>by
  have:=hes _(List.getElem_mem hk);refine⟨fs[k].fr.toNat,fs[k].to.toNat,by omega,by omega,by omega,by omega, ?_⟩;rw [<-hE,List.getElem?_eq_getElem(by rw [Nt.edges_length];exact hk),Nt.edges_get fs k hk]
 have hell:es.length=fs.length:=by rw [<-hE,Nt.edges_length]
 obtain⟨w2,hw2⟩: ∃x,((w.alloc(.cells #[.slice an ns.length cn, .slice af fs.length cf]30)).alloc(.cells #[.bool false, .bool false, .bool false, .bool false, .bool false, .bool false, .bool false, .bool false, .bool false, .bool false, .bool false, .bool false, .bool false, .bool false, .bool false, .bool false, .bool false, .bool false, .bool false, .bool false, .bool false, .bool false, .bool false, .bool false]116)).alloc(.cells #[.bool false, .bool false, .bool false, .bool false, .bool false, .bool false, .bool false, .bool false, .bool false, .bool false, .bool false, .bool false, .bool false, .bool false, .bool false, .bool false, .bool false, .bool false, .bool false, .bool false, .bool false, .bool false, .bool false, .bool false]116)=x:=⟨_,rfl⟩
 have C2:Nt.Sw w #[.slice an ns.length cn, .slice af fs.length cf](List.replicate 24 false)(List.replicate 24 false)w2:=by
  rw [<-hw2];refine⟨(((Below.refl _ w).alloc(Nat.le_refl _)_).alloc(by simp)_).alloc(by simp;omega)_, ?_, ?_, ?_⟩
  ·rw [Below.heap_alloc _ _ _(by simp;omega),Below.heap_alloc _ _ _(by simp)];exact heap_alloc_new w _
  ·unfold Nt.Bt
   rw [Below.heap_alloc _ _ _(by simp),<-Nt.marks_zero];have:=heap_alloc_new(w.alloc(.cells #[.slice an ns.length cn, .slice af fs.length cf]30))(.cells #[.bool false, .bool false, .bool false, .bool false, .bool false, .bool false, .bool false, .bool false, .bool false, .bool false, .bool false, .bool false, .bool false, .bool false, .bool false, .bool false, .bool false, .bool false, .bool false, .bool false, .bool false, .bool false, .bool false, .bool false]116);simpa using this
  unfold Nt.Bt;rw [<-Nt.marks_zero];have:=heap_alloc_new((w.alloc(.cells #[.slice an ns.length cn, .slice af fs.length cf]30)).alloc(.cells #[.bool false, .bool false, .bool false, .bool false, .bool false, .bool false, .bool false, .bool false, .bool false, .bool false, .bool false, .bool false, .bool false, .bool false, .bool false, .bool false, .bool false, .bool false, .bool false, .bool false, .bool false, .bool false, .bool false, .bool false]116))(.cells #[.bool false, .bool false, .bool false, .bool false, .bool false, .bool false, .bool false, .bool false, .bool false, .bool false, .bool false, .bool false, .bool false, .bool false, .bool false, .bool false, .bool false, .bool false, .bool false, .bool false, .bool false, .bool false, .bool false, .bool false]116);simpa using this
 have hst:=λW(hb:Below w.heap.size w W)=>Tryz.nStart_any an cn d af fs.length cf ns W((hH.nds.below hb).wider hb.size)hH.nlen;have hen:=λW(hb:Below w.heap.size w W)=>Tryz.nEnd_any an cn d af fs.length cf ns W((hH.nds.below hb).wider hb.size)hH.nlen;obtain⟨l,hl⟩: ∃l,Nt.wrong4 ns fs=l:=⟨_,rfl⟩
 have HP:Hid(∀(W:World)(box:Array Value),Nt.Sw w box(Rk.sweeps es ns.length((List.replicate 24 false).set s true))(Rk.sweeps(Nt.back es)ns.length((List.replicate 24 false).set t true))W->
   Calls Tryz.prog 132 #[.int .i64 ns.length, .func(.func 143) #[] #[.pointer(some⟨w.heap.size+1,0,none⟩), .pointer(some⟨w.heap.size+1+1,0,none⟩)]]W λe w'=> ∃v,e= .returned v/\w'.ownsRow W.heap.size 3 1 v l.length(Rk.nums l)/\Below W.heap.size W w'):=λW box hS=>by
  have h:=Tryz.places_any(λi=> !Nt.roadB ns fs i)143 #[.pointer(some⟨w.heap.size+1,0,none⟩), .pointer(some⟨w.heap.size+1+1,0,none⟩)]Nt.enters_stray ns.length W(λW' k hk hb=>by
   have hS':=hS.next hb;have h:=Tryz.stray1_any k(w.heap.size+1)(w.heap.size+1+1)(Rk.met es s k)(Rk.met es k t)W'(by omega)(hS'.ah.cell k _(hA k hk))(hS'.bk.cell k _(by rw [hB k hk,Nt.met_back]));refine h.mono λe w' h=>⟨?_,h.2⟩;rw [h.1];show _=Ending.returned(Value.bool(!(Rk.met(Nt.edges fs)(Nt.firstI ns 1).toNat k&&Rk.met(Nt.edges fs)k(Nt.firstI ns 2).toNat)));rw [hE,hs,ht]
   rfl)(by omega)
  rw [show(List.range ns.length).filter(λi=> !Nt.roadB ns fs i)=l from hl]at h;exact h
 have HFL:Hid(Nt.Fls w w.heap.size d af fs):=hH.fls;obtain⟨n,hnn⟩: ∃n,ns.length=n:=⟨_,rfl⟩;obtain⟨m,hmm⟩: ∃n,fs.length=n:=⟨_,rfl⟩;have hm100:m<=100:=by have:=hH.flen;omega
 rw [hs,hnn,hmm]at hst;rw [ht,hnn,hmm]at hen;rw [hnn]at hn24 hsn htn HES HP;rw [hnn,hmm]at hw2 C2;rw [hl,hnn,hmm];have H2:Hid(((w.alloc(.cells #[.slice an n cn, .slice af m cf]30)).alloc(.cells #[.bool false, .bool false, .bool false, .bool false, .bool false, .bool false, .bool false, .bool false, .bool false, .bool false, .bool false, .bool false, .bool false, .bool false, .bool false, .bool false, .bool false, .bool false, .bool false, .bool false, .bool false, .bool false, .bool false, .bool false]116)).alloc(.cells #[.bool false, .bool false, .bool false, .bool false, .bool false, .bool false, .bool false, .bool false, .bool false, .bool false, .bool false, .bool false, .bool false, .bool false, .bool false, .bool false, .bool false, .bool false, .bool false, .bool false, .bool false, .bool false, .bool false, .bool false]116)=w2):=hw2;have HC2:Hid(Nt.Sw w #[.slice an n cn, .slice af m cf](List.replicate 24 false)(List.replicate 24 false)w2):=C2;have HM:Hid(es.length=m/\fs.length=m):=⟨by omega,hmm⟩;have hs24:(s:Int)<24:=by omega
 have ht24:(t:Int)<24:=by omega
 have hs0':(0:Int)<=s:=by omega
 have ht0':(0:Int)<=t:=by omega
 have CS:Hid(∀W,Nt.Sw w #[.slice an n cn, .slice af m cf](List.replicate 24 false)(List.replicate 24 false)W->Calls Tryz.prog 139 #[.agg #[.slice an n cn, .slice af m cf]]W λe w'=>e= .returned(.int .i64 s)/\Hid(Nt.Sw w #[.slice an n cn, .slice af m cf](List.replicate 24 false)(List.replicate 24 false)w')):=λW h=>(hst W h.below).mono λe w' q=>⟨q.1,h.next q.2⟩;have CE:Hid(∀W,Nt.Sw w #[.slice an n cn, .slice af m cf](List.replicate 24 false)(List.replicate 24 false)W->Calls Tryz.prog 140 #[.agg #[.slice an n cn, .slice af m cf]]W λe w'=>e= .returned(.int .i64 t)/\Hid(Nt.Sw w #[.slice an n cn, .slice af m cf](List.replicate 24 false)(List.replicate 24 false)w')):=λW h=>(hen W h.below).mono λe w' q=>⟨q.1,h.next q.2⟩
 have CF:Hid(∀W,Nt.Sw w #[.slice an n cn, .slice af m cf](List.replicate 24 false)(List.replicate 24 false)W->(W.cell? ⟨w.heap.size,0,none⟩=some(.slice an n cn)/\W.cell? ⟨w.heap.size,1,none⟩=some(.slice af m cf))/\W.cell? ⟨w.heap.size+1,s,none⟩=some(.bool false)/\W.cell? ⟨w.heap.size+1+1,t,none⟩=some(.bool false)/\W.frozen? ⟨w.heap.size+1,s,none⟩=false/\W.frozen? ⟨w.heap.size+1+1,t,none⟩=false):=λW h=>
  ⟨Nt.box2 h.box,h.ah.cell s false(by rw [List.getElem?_replicate,if_pos(by omega)]),h.bk.cell t false(by rw [List.getElem?_replicate,if_pos(by omega)]),h.ah.frozen s,h.bk.frozen t⟩
 clear hH hes hst hen hA hB hel hE hell hnn hmm hl hs ht hs0 he0 hw2 C2
 go_enter Tryz.func112,Tryz.ntmps112
 go_upto_region 2 with fail
 rw [H2.out]
 go_cut [](λwx=>Hid(Nt.Sw w #[.slice an n cn, .slice af m cf]((List.replicate 24 false).set s true)((List.replicate 24 false).set t true)wx))
 case first=>
  clear HP HES HFL
  go_region_held3(λW=>W.cell? ⟨w.heap.size,0,none⟩=some(.slice an n cn)/\W.cell? ⟨w.heap.size,1,none⟩=some(.slice af m cf))
   (first|exact(CF.out _ S4.out).1|exact(CF.out _ S3.out).1|exact(CF.out _ HC2.out).1|exact(CF.out _ HC2.out.drew).1|exact Nt.box2(S4.out.put1 _ _).box|exact Nt.box2(S4.out.put2 _ _).box|exact Nt.box2((S4.out.put1 _ _).put2 _ _).box|exact Nt.box2((S4.out.put2 _ _).put1 _ _).box)
   (first
   |(go_simp;go_at_call 139;refine Calls.mono(CS.out _ ?_) ?_;(first|exact HC2.out|exact HC2.out.drew);rintro e W3⟨rfl,S3⟩;obtain⟨-,k3,k4,k5,k6⟩:=CF.out W3 S3.out)
   |(go_simp;go_at_call 140;refine Calls.mono(CE.out _ ?_) ?_;(first|exact S3.out|exact S3.out.drew);rintro e W4⟨rfl,S4⟩;obtain⟨-,k7,k8,k9,k10⟩:=CF.out W4 S4.out))
  all_goals
   go_wp2_with fail
   go_meet
   first|exact(S4.out.put1 _ _).put2 _ _|exact(S4.out.put2 _ _).put1 _ _
 case rest=>
 rename World=>wc;obtain⟨q0,q1⟩:=Nt.box2 hcut.out.box;have HCC:Hid(Nt.Sw w #[.slice an n cn, .slice af m cf]((List.replicate 24 false).set s true)((List.replicate 24 false).set t true)wc):=hcut.out;clear hcut CS CE CF H2 HC2;obtain⟨FA,hFA⟩: ∃z,Rk.sweeps es n((List.replicate 24 false).set s true)=z:=⟨_,rfl⟩;obtain⟨FB,hFB⟩: ∃z,Rk.sweeps(Nt.back es)n((List.replicate 24 false).set t true)=z:=⟨_,rfl⟩;rw [hFA,hFB]at HP;have HFF:Hid(Rk.sweeps es n((List.replicate 24 false).set s true)=FA/\Rk.sweeps(Nt.back es)n((List.replicate 24 false).set t true)=FB):=⟨hFA,hFB⟩;clear hFA hFB;go_wp2
 go_loopg [16]n(λgk s16 wr=> ∃(j:Nat)(ah bk:List Bool),gk+j=n/\s16= .int .i64 j/\Hid(Rk.sweeps es(n-j)ah=FA/\Rk.sweeps(Nt.back es)(n-j)bk=FB/\ah.length=24/\bk.length=24/\Nt.Sw w #[.slice an n cn, .slice af m cf]ah bk wr))
 case atStart=>exact⟨0,_,_,by omega,rfl,HFF.out.1,HFF.out.2,by simp,by simp,HCC.out⟩
 case round=>
  obtain⟨j,ah,bk,hj,rfl,HI⟩:=hrel;clear q0 q1 HCC HFF
  by_cases hlt:j<n
  rotate_left
  ·have hd:decide((j:Int)<n)=false:=decide_eq_false(by omega)
   have HF:Hid(Nt.Sw w #[.slice an n cn, .slice af m cf]FA FB wr):=by
    show Nt.Sw _ _ _ _ _;have h1:=HI.out.1;have h2:=HI.out.2.1;rw [show n-j=0 by omega]at h1 h2;rw [<-h1,<-h2];exact HI.out.2.2.2.2
   obtain⟨q0,q1⟩:=Nt.box2 HI.out.2.2.2.2.box
   go_wp2_with fail
   refine Calls.mono(HP.out wr _ HF.out) ?_;rintro e W6⟨v,rfl,how,hb6⟩;have B6:Hid(W6.ownsRow w.heap.size 3 1 v l.length(Rk.nums l)/\Below w.heap.size w W6):=⟨Nt.own_lower how HF.out.below.size,HF.out.below.trans(hb6.mono HF.out.below.size)⟩;clear how hb6 HP;go_wp2;go_ret;exact⟨v,rfl,B6.out.1,B6.out.2⟩
  have hd:decide((j:Int)<n)=true:=decide_eq_true(by omega);obtain⟨q0,q1⟩:=Nt.box2 HI.out.2.2.2.2.box
  have HSA:Hid(Rk.sweeps es(n-(j+1))(Rk.sweep es ah)=FA/\Rk.sweeps(Nt.back es)(n-(j+1))(Rk.sweep(Nt.back es)bk)=FB):=by
   refine⟨?_, ?_⟩
   ·rw [<-HI.out.1,show n-j=(n-(j+1))+1 by omega,Rk.sweeps]
   rw [<-HI.out.2.1,show n-j=(n-(j+1))+1 by omega,Rk.sweeps]
  obtain⟨g1,hg1⟩: ∃x,gk=x:=⟨_,rfl⟩;go_wp2
  go_loopg [21]m(λgk s21 wr=> ∃(k:Nat)(ca cb:List Bool),gk+k=m/\s21= .int .i64 k/\Hid(Rk.sweep(es.drop k)ca=Rk.sweep es ah/\Rk.sweep((Nt.back es).drop k)cb=Rk.sweep(Nt.back es)bk/\ca.length=24/\cb.length=24/\Nt.Sw w #[.slice an n cn, .slice af m cf]ca cb wr))
  case atStart=>exact⟨0,ah,bk,by omega,rfl,rfl,rfl,HI.out.2.2.1,HI.out.2.2.2.1,HI.out.2.2.2.2⟩
  case round=>
   obtain⟨k,ca,cb,hk,rfl,HJ⟩:=hrel;clear q0 q1
   by_cases hlt2:k<m
   rotate_left
   ·have hd2:decide((k:Int)<m)=false:=decide_eq_false(by omega)
    have HF:Hid(ca=Rk.sweep es ah/\cb=Rk.sweep(Nt.back es)bk):=by
     refine⟨?_, ?_⟩
     ·rw [<-HJ.out.1,List.drop_of_length_le(by rw [HM.out.1];omega)]
      rfl
     rw [<-HJ.out.2.1,List.drop_of_length_le(by rw [Nt.back_length,HM.out.1];omega)];rfl
    go_wp2;go_roundg(g1-1)
    case measure=>omega
    case rel=>exact⟨j+1,ca,cb,by omega,by go_num,by rw [HF.out.1];exact HSA.out.1,by rw [HF.out.2];exact HSA.out.2,HJ.out.2.2.1,HJ.out.2.2.2.1,HJ.out.2.2.2.2⟩
   have hd2:decide((k:Int)<m)=true:=decide_eq_true(by omega);have hkl:k<fs.length:=by rw [HM.out.2];exact hlt2
   obtain⟨q,off,u,rfl,hq,h0,h1,h2,h3,h4,h5,h6⟩:=HFL.out k hkl;obtain⟨x,y,hx,hy,hfx,hfy,hek⟩:=HES.out k hkl;obtain⟨au,cu,rfl⟩:=h6.shape;rw [hfx]at h0;rw [hfy]at h1;obtain⟨nu,hnu⟩: ∃n,fs[k].c.ks.length=n:=⟨_,rfl⟩;obtain⟨els,hel⟩: ∃x,fs[k].els=x:=⟨_,rfl⟩;obtain⟨op,hop⟩: ∃x,fs[k].c.op=x:=⟨_,rfl⟩;obtain⟨num,hnum⟩: ∃x,fs[k].c.num=x:=⟨_,rfl⟩;rw [hnu]at h5;rw [hel]at h2;rw [hop]at h3;rw [hnum]at h4;have hc: ∀o,wr.cell? ⟨q,o,none⟩=w.cell? ⟨q,o,none⟩:=λo=>HJ.out.2.2.2.2.below.cell(p:=⟨q,o,none⟩)hq;have c0:=(hc _).trans h0;have c1:=(hc _).trans h1;have c2:=(hc _).trans h2;have c3:=(hc _).trans h3;have c4:=(hc _).trans h4;have c5:=(hc _).trans h5;have hx24:(x:Int)<24:=by omega
   have hy24:(y:Int)<24:=by omega
   have hx0:(0:Int)<=x:=by omega
   have hy0:(0:Int)<=y:=by omega
   have hu:=Tryz.underlying78;obtain⟨ax,hax⟩: ∃b,ca[x]? =some b:=⟨_,List.getElem?_eq_getElem(by rw [HJ.out.2.2.1];omega)⟩;obtain⟨ay,hay⟩: ∃b,ca[y]? =some b:=⟨_,List.getElem?_eq_getElem(by rw [HJ.out.2.2.1];omega)⟩;obtain⟨bx,hbx⟩: ∃b,cb[x]? =some b:=⟨_,List.getElem?_eq_getElem(by rw [HJ.out.2.2.2.1];omega)⟩;obtain⟨b_y,hby⟩: ∃b,cb[y]? =some b:=⟨_,List.getElem?_eq_getElem(by rw [HJ.out.2.2.2.1];omega)⟩
   have HNX:Hid(Rk.sweep(es.drop(k+1))(ca.set y(ay||ax))=Rk.sweep es ah/\Rk.sweep((Nt.back es).drop(k+1))(cb.set x(bx||b_y))=Rk.sweep(Nt.back es)bk):=by
    obtain⟨hh,he⟩:=List.getElem?_eq_some_iff.1 hek;refine⟨?_, ?_⟩
    ·rw [<-HJ.out.1,Rk.drop_at' es k hh,Rk.sweep,he,Nt.set_or hay]
     congr 1
     simp only [hax,Option.some.injEq]
    rw [<-HJ.out.2.1,Rk.drop_at'(Nt.back es)k(by rw [Nt.back_length];exact hh),Rk.sweep,Nt.set_or hbx]
    congr 1
    simp only [Nt.back,List.getElem_map,he,hby,Option.some.injEq]
   obtain⟨W0,hW0⟩: ∃z,wr.alloc(.cells #[.int .i64(x:Int), .int .i64(y:Int), .bool els, .int .i64 op, .int .i64 num, .slice au nu cu]78)=z:=⟨_,rfl⟩;have S0:Hid(Nt.Sw w #[.slice an n cn, .slice(some⟨q,off,none⟩)m cf]ca cb W0):=by show Nt.Sw _ _ _ _ _;rw [<-hW0];exact HJ.out.2.2.2.2.alloc _
   have F0:Hid(W0.heap[wr.heap.size]? =some(.cells #[.int .i64(x:Int), .int .i64(y:Int), .bool els, .int .i64 op, .int .i64 num, .slice au nu cu]78(0,0))):=by show _=_;rw [<-hW0];exact heap_alloc_new wr _
   have HW0:Hid(wr.alloc(.cells #[.int .i64(x:Int), .int .i64(y:Int), .bool els, .int .i64 op, .int .i64 num, .slice au nu cu]78)=W0):=hW0;have hn1:wr.heap.size≠w.heap.size+1:=by have:=HJ.out.2.2.2.2.ah.lt;omega
   have hn2:wr.heap.size≠w.heap.size+1+1:=by have:=HJ.out.2.2.2.2.bk.lt;omega
   have HQ:Hid(ca[x]? =some ax/\ca[y]? =some ay/\cb[x]? =some bx/\cb[y]? =some b_y):=⟨hax,hay,hbx,hby⟩;clear h0 h1 h2 h3 h4 h5 h6 hc hnu hel hop hnum hq hfx hfy hek hax hay hbx hby hW0
   go_upto_region 8 with fail
   rw [HW0.out];clear HW0 c0 c1 c2 c3 c4 c5
   go_cut [](λwx=>Hid(Nt.Sw w #[.slice an n cn, .slice(some⟨q,off,none⟩)m cf](ca.set y(ay||ax))cb wx/\wx.heap[wr.heap.size]? =some(.cells #[.int .i64(x:Int), .int .i64(y:Int), .bool els, .int .i64 op, .int .i64 num, .slice au nu cu]78(0,0))))
   case first=>
    obtain⟨f0,f1,f2,f3,f4,f5⟩:=Nt.flowBox F0.out;have k1:=S0.out.ah.cell x ax HQ.out.1;have k2:=S0.out.ah.cell y ay HQ.out.2.1;have k3:=S0.out.ah.frozen y
    have HE:Hid(∀W v,W=W0∨W=W0.drew->v=(ay||ax)->Nt.Sw w #[.slice an n cn, .slice(some⟨q,off,none⟩)m cf](ca.set y(ay||ax))cb(W.setCell⟨w.heap.size+1,y,none⟩(.bool v))/\(W.setCell⟨w.heap.size+1,y,none⟩(.bool v)).heap[wr.heap.size]? =some(.cells #[.int .i64(x:Int), .int .i64(y:Int), .bool els, .int .i64 op, .int .i64 num, .slice au nu cu]78(0,0))):=λW v hW hv=>by
     subst hv
     rcases hW with rfl|rfl
     ·exact⟨S0.out.put1 _ _,by rw [Below.heap_setCell _ _ _ _ hn1];exact F0.out⟩
     exact⟨S0.out.drew.put1 _ _,by rw [Below.heap_setCell _ _ _ _ hn1];exact F0.out⟩
    clear S0 F0 HQ HNX HSA HI HJ HP HES HFL
    cases ay
    all_goals
     go_region
     all_goals
      go_wp2_with fail
      go_meet
      first|exact HE.out _ _(.inl rfl)(by simp)|exact HE.out _ _(.inr rfl)(by simp)
   case rest=>
   rename World=>w5;have HC5:Hid(Nt.Sw w #[.slice an n cn, .slice(some⟨q,off,none⟩)m cf](ca.set y(ay||ax))cb w5/\w5.heap[wr.heap.size]? =some(.cells #[.int .i64(x:Int), .int .i64(y:Int), .bool els, .int .i64 op, .int .i64 num, .slice au nu cu]78(0,0))):=hcut.out;clear hcut S0 F0;obtain⟨f0,f1,f2,f3,f4,f5⟩:=Nt.flowBox HC5.out.2;have k1:=HC5.out.1.bk.cell x bx HQ.out.2.2.1;have k2:=HC5.out.1.bk.cell y b_y HQ.out.2.2.2;have k3:=HC5.out.1.bk.frozen x
   have HE:Hid(∀W v,W=w5∨W=w5.drew->v=(bx||b_y)->Nt.Sw w #[.slice an n cn, .slice(some⟨q,off,none⟩)m cf](ca.set y(ay||ax))(cb.set x(bx||b_y))(W.setCell⟨w.heap.size+1+1,x,none⟩(.bool v))):=λW v hW hv=>by
    subst hv
    rcases hW with rfl|rfl
    ·exact HC5.out.1.put2 _ _
    exact HC5.out.1.drew.put2 _ _
   clear HC5 HQ
   cases bx
   all_goals
    go_upto_region 9 with fail
    go_region
    all_goals
     go_wp2;go_roundg(gk-1)
     case measure=>omega
     case rel=>exact⟨k+1,_,_,by omega,by go_num,HNX.out.1,HNX.out.2,by simpa using HJ.out.2.2.1,by simpa using HJ.out.2.2.2.1,by first|exact HE.out _ _(.inl rfl)(by simp)|exact HE.out _ _(.inr rfl)(by simp)⟩
end Go.Proofs
