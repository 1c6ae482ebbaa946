/-
  rules: those of a node.
-/
import Derived.Test.YtiedlccnlkhnkaaDoorAllRuFns
import Derived.Test.YtiedlccnlkhnkaaDoorNtThreeC
namespace Go.Proofs
open Go.RowKit Go.Shelf

/-- The rules of a node. -/
def Ru.rulesP (ns : List Nd) (fs : List Fl) (i : Nat) : List Ru :=
  if Nt.kindAt ns i = 3 ∨ Nt.kindAt ns i = 4 ∨ Nt.kindAt ns i = 6 ∨ Nt.kindAt ns i = 2 then [Ru.of 1 i (Nt.insL fs i) (Nt.outsL fs i)]
  else if Nt.kindAt ns i = 8 then [Ru.of 3 i (Nt.insL fs i) (Nt.outsL fs i)]
  else if Nt.kindAt ns i = 7 then (Nt.outsL fs i).map fun f => Ru.of 3 i (Nt.insL fs i) (Nt.outsL fs (Ru.toAt fs f))
  else if Nt.kindAt ns i = 5 then (if 1 < (Nt.outsL fs i).length then (Nt.outsL fs i).map fun f => Ru.of 2 i (Nt.insL fs i) [f] else (Nt.insL fs i).map fun f => Ru.of 1 i [f] (Nt.outsL fs i))
  else []

theorem Ru.Row.form {T : TypeId} {B : Nat} {X : World} {v : Value} {rs : List Ru} (h : Ru.Row T B X v rs) : ∃ a n c, v = .slice a n c := by
  obtain ⟨a, c, h, -⟩ := h.at
  exact ⟨a, _, c, h⟩
/-- A block that holds a slice. -/
def Ru.Sl (X : World) (b : Nat) : Prop := ∃ cs fr, X.heap[b]? = some (.cells cs 51 fr)
theorem Ru.Sl.new (X : World) (cs : Array Value) (b : Nat) (hb : b = X.heap.size) : Ru.Sl (X.alloc (.cells cs 51)) b := by
  subst hb
  exact ⟨cs, (0, 0), heap_alloc_new X _⟩
theorem Ru.Sl.bl {X X' : World} {b : Nat} (h : Hid (Below X.heap.size X X')) (hs : Ru.Sl X b) : Ru.Sl X' b := by
  obtain ⟨cs, fr, hb⟩ := hs
  exact ⟨cs, fr, by rw [h.out.block b (Ru.lt_of hb)]; exact hb⟩
theorem Ru.Sl.al {X : World} {b : Nat} (o : Obj) (hs : Ru.Sl X b) : Ru.Sl (X.alloc o) b := Ru.Sl.bl (X := X) ((Below.refl _ X).alloc (Nat.le_refl _) o) hs
theorem Ru.Sl.se {X : World} {b b' : Nat} (v : Value) (hs : Ru.Sl X b) : Ru.Sl (X.setCell ⟨b', 0, none⟩ v) b := by
  obtain ⟨cs, fr, hb⟩ := hs
  by_cases e : b = b'
  · subst e
    refine ⟨cs.setIfInBounds 0 v, fr, ?_⟩
    simp [World.setCell, Array.getElem?_modify, hb]
  · exact ⟨cs, fr, by rw [Below.heap_setCell _ _ _ _ e]; exact hb⟩
theorem Ru.Ints.bl {X X' : World} {u : Value} {l : List Int} (h : Hid (Below X.heap.size X X')) (hs : Ru.Ints X u l) : Ru.Ints X' u l := hs.below h.out
theorem Ru.Ints.al {X : World} {u : Value} {l : List Int} (o : Obj) (hs : Ru.Ints X u l) : Ru.Ints (X.alloc o) u l := hs.below ((Below.refl _ X).alloc (Nat.le_refl _) o)
theorem Ru.Ints.se {X : World} {u : Value} {l : List Int} {b : Nat} (v : Value) (hb : Ru.Sl X b) (hs : Ru.Ints X u l) : Ru.Ints (X.setCell ⟨b, 0, none⟩ v) u l :=
  hs.keep fun g cs fr hg => Below.heap_setCell _ _ _ _ (fun e => by
    subst e
    obtain ⟨cs', fr', hb⟩ := hb
    rw [hb] at hg
    simp only [Option.some.injEq, Obj.cells.injEq] at hg
    exact absurd hg.2.1 (by decide))

/-- Behind 'ins, outs := ..'. -/
def Ru.Got (w2 : World) (n1 n2 : Nat) (L1 L2 : List Nat) (bs be : Nat) (wx : World) : Prop := Below w2.heap.size w2 wx ∧ bs < wx.heap.size ∧ be < wx.heap.size ∧ ∃ a1 c1 a2 c2, wx.cell? ⟨bs, 0, none⟩ = some (.slice a1 n1 c1) ∧ wx.cell? ⟨be, 0, none⟩ = some (.slice a2 n2 c2) ∧ Ru.Ints wx (.slice a1 n1 c1) (L1.map fun n : Nat => (n : Int)) ∧ Ru.Ints wx (.slice a2 n2 c2) (L2.map fun n : Nat => (n : Int))

theorem Ru.enters1 : ∀ args w, (callFunc 71 args).run Tryd.prog w = .ok (.enter 71 args) w := enters_of Tryd.func71 (by kernel_rfl) rfl
theorem Ru.enters2 : ∀ args w, (callFunc 72 args).run Tryd.prog w = .ok (.enter 72 args) w := enters_of Tryd.func72 (by kernel_rfl) rfl
theorem Ru.enters3 : ∀ args w, (callFunc 73 args).run Tryd.prog w = .ok (.enter 73 args) w := enters_of Tryd.func73 (by kernel_rfl) rfl

set_option maxRecDepth 20000 in
set_option maxHeartbeats 8000000 in
theorem Tryd.rules_any (i : Nat) (an : Option Addr) (cn : Nat) (af : Option Addr) (cf d : Nat) (ns : List Nd) (fs : List Fl) (w : World) (hH : Nt.Has w w.heap.size d an af ns fs) (hi : i < ns.length) :
    Calls Tryd.prog 45 #[.agg #[.slice an ns.length cn, .slice af fs.length cf], .int .i64 i] w fun e w' => ∃ v, e = .returned v ∧ Hid (Ru.Row 53 w.heap.size w' v (Ru.rulesP ns fs i) ∧ Below w.heap.size w w') := by
  obtain ⟨w2, hw2⟩ : ∃ x, (w.alloc (.cells #[.slice an ns.length cn, .slice af fs.length cf] 25)).alloc (.cells #[.int .i64 i] 3) = x := ⟨_, rfl⟩
  have A2 : Below w.heap.size w w2 := by rw [← hw2]; exact ((Below.refl _ w).alloc (Nat.le_refl _) _).alloc (by simp) _
  have hs2 : w2.heap.size = w.heap.size + 2 := by rw [← hw2]; simp
  have C0 : w2.heap[w.heap.size]? = some (.cells #[.slice an ns.length cn, .slice af fs.length cf] 25 (0, 0)) := by rw [← hw2, Below.heap_alloc _ _ _ (by simp)]; exact heap_alloc_new w _
  have C1 : w2.cell? ⟨w.heap.size + 1, 0, none⟩ = some (.int .i64 i) := by
    rw [← hw2]
    have := heap_alloc_new (w.alloc (.cells #[.slice an ns.length cn, .slice af fs.length cf] 25)) (.cells #[.int .i64 i] 3)
    simp at this
    simp [World.cell?, this]
  obtain ⟨L1, hL1⟩ : ∃ l, Nt.insL fs i = l := ⟨_, rfl⟩
  obtain ⟨L2, hL2⟩ : ∃ l, Nt.outsL fs i = l := ⟨_, rfl⟩
  have hl1 : L1.length ≤ 100 := by rw [← hL1, Nt.insL]; exact Nat.le_trans (List.length_filter_le _ _) (by rw [List.length_range]; exact hH.flen)
  have hl2 : L2.length ≤ 100 := by rw [← hL2, Nt.outsL]; exact Nat.le_trans (List.length_filter_le _ _) (by rw [List.length_range]; exact hH.flen)
  have hm2 : ∀ f, f ∈ L2 → f < fs.length := fun f hf => by rw [← hL2, Nt.outsL] at hf; exact List.mem_range.1 (List.mem_filter.1 hf).1
  obtain ⟨n1, hn1⟩ : ∃ n, L1.length = n := ⟨_, rfl⟩
  obtain ⟨n2, hn2⟩ : ∃ n, L2.length = n := ⟨_, rfl⟩
  obtain ⟨n, hnn⟩ : ∃ n, ns.length = n := ⟨_, rfl⟩
  obtain ⟨m, hmm⟩ : ∃ n, fs.length = n := ⟨_, rfl⟩
  obtain ⟨R, hR⟩ : ∃ l, Ru.rulesP ns fs i = l := ⟨_, rfl⟩
  have HT : Hid (∀ W, Below w2.heap.size w2 W → Below w.heap.size w W) := fun W hb => A2.trans (hb.mono A2.size)
  have CF : Hid (∀ W, Below w2.heap.size w2 W → W.cell? ⟨w.heap.size, 0, none⟩ = some (.slice an n cn) ∧ W.cell? ⟨w.heap.size, 1, none⟩ = some (.slice af m cf) ∧ W.cell? ⟨w.heap.size + 1, 0, none⟩ = some (.int .i64 i)) := fun W hb => by
    have := Nt.box2 ((hb.block _ (Nt.lt_of C0)).trans C0)
    rw [hnn, hmm] at this
    exact ⟨this.1, this.2, by rw [hb.cell (p := ⟨w.heap.size + 1, 0, none⟩) (by show w.heap.size + 1 < w2.heap.size; omega)]; exact C1⟩
  have CI : Hid (∀ W, Below w2.heap.size w2 W → Calls Tryd.prog 68 #[.agg #[.slice an n cn, .slice af m cf], .int .i64 i] W fun e w' => ∃ a c, e = .returned (.slice a n1 c) ∧ Hid (Below w2.heap.size w2 w') ∧ Nt.Old W w' ∧ Hid (Below W.heap.size W w') ∧ Hid (Ru.Ints w' (.slice a n1 c) (L1.map fun n : Nat => (n : Int)))) := fun W hb => by
    have hbw := HT.out W hb
    have h := Tryd.nIns_any i an n cn af cf d fs W ((hH.fls.below hbw).wider hbw.size) hH.flen
    rw [hL1, hmm] at h
    refine h.mono fun e w' ⟨v, hv, hown, hbb⟩ => ?_
    have hI := Ru.ints_nums hown
    obtain ⟨a, c, rfl, -⟩ := id hI
    rw [List.length_map, hn1] at hI hv
    exact ⟨a, c, hv, hb.trans (hbb.mono hb.size), Nt.Old.of hbb, hbb, hI⟩
  have CO : Hid (∀ W, Below w2.heap.size w2 W → Calls Tryd.prog 29 #[.agg #[.slice an n cn, .slice af m cf], .int .i64 i] W fun e w' => ∃ a c, e = .returned (.slice a n2 c) ∧ Hid (Below w2.heap.size w2 w') ∧ Nt.Old W w' ∧ Hid (Below W.heap.size W w') ∧ Hid (Ru.Ints w' (.slice a n2 c) (L2.map fun n : Nat => (n : Int)))) := fun W hb => by
    have hbw := HT.out W hb
    have h := Tryd.nOuts_any i an n cn af cf d fs W ((hH.fls.below hbw).wider hbw.size) hH.flen
    rw [hL2, hmm] at h
    refine h.mono fun e w' ⟨v, hv, hown, hbb⟩ => ?_
    have hI := Ru.ints_nums hown
    obtain ⟨a, c, rfl, -⟩ := id hI
    rw [List.length_map, hn2] at hI hv
    exact ⟨a, c, hv, hb.trans (hbb.mono hb.size), Nt.Old.of hbb, hbb, hI⟩
  have HH : Hid (Nt.Has w w.heap.size d an af ns fs ∧ ns.length = n ∧ fs.length = m ∧ i < n ∧ L1.length = n1 ∧ L2.length = n2 ∧ L1.length ≤ 100 ∧ L2.length ≤ 100 ∧ ∀ f, f ∈ L2 → f < fs.length) := ⟨hH, hnn, hmm, by omega, hn1, hn2, hl1, hl2, hm2⟩
  have HR : Hid (Ru.rulesP ns fs i = R ∧ Nt.insL fs i = L1 ∧ Nt.outsL fs i = L2) := ⟨hR, hL1, hL2⟩
  have HS : Hid (w2.heap.size = w.heap.size + 2) := hs2
  rw [hnn, hmm] at hw2
  have H2 : Hid ((w.alloc (.cells #[.slice an n cn, .slice af m cf] 25)).alloc (.cells #[.int .i64 i] 3) = w2) := hw2
  have BR : Hid (Below w2.heap.size w2 w2) := Below.refl _ _
  rw [hR, hnn, hmm]
  clear hH hi hw2 A2 hs2 C0 C1 hL1 hL2 hl1 hl2 hm2 hn1 hn2 hnn hmm hR
  go_enter Tryd.func45, Tryd.ntmps45
  go_upto_region 1 with fail
  rw [H2.out]
  go_cut [5, 6] (fun s5 s6 wx => ∃ bs be : Nat, s5 = .pointer (some ⟨bs, 0, none⟩) ∧ s6 = .pointer (some ⟨be, 0, none⟩) ∧ Hid (Ru.Got w2 n1 n2 L1 L2 bs be wx))
  case first =>
    have hws : w.heap.size < w2.heap.size := by have := HS.out; omega
    have hws1 : w.heap.size + 1 < w2.heap.size := by have := HS.out; omega
    clear HT HH HR HS H2
    go_region_held3 (fun W => W.cell? ⟨w.heap.size, 0, none⟩ = some (.slice an n cn) ∧ W.cell? ⟨w.heap.size, 1, none⟩ = some (.slice af m cf) ∧ W.cell? ⟨w.heap.size + 1, 0, none⟩ = some (.int .i64 i))
      (first | (refine CF.out _ ?_; (repeat (first | exact B4.out | exact B3.out | exact BR.out | apply Nt.al | apply Nt.dr | (refine Nt.st ?_ _ _ _ (by first | omega | (simp; omega) | (have := B3.out.size; omega)))))))
      (first
      | (go_simp; go_at_call 68; refine Calls.mono (CI.out _ ?_) ?_; (repeat (first | exact B4.out | exact B3.out | exact BR.out | apply Nt.al | apply Nt.dr | (refine Nt.sr ?_ _ _ (by first | omega | (simp; omega) | (simp))))); rintro e W3 ⟨a3, c3, rfl, B3, ⟨z3, y3, s3⟩, BB3, I3⟩; have g3 := (CF.out W3 B3.out).1; have g4 := (CF.out W3 B3.out).2.1; have g4' := (CF.out W3 B3.out).2.2; have gq3 : w.heap.size < W3.heap.size := Nat.lt_of_lt_of_le hws B3.out.size; have gq3' : w.heap.size + 1 < W3.heap.size := Nat.lt_of_lt_of_le hws1 B3.out.size; have q3 : ∀ b, b < _ → b < W3.heap.size := fun b hb => Nat.lt_of_lt_of_le hb s3; (try simp at s3); (first | (have q3a : w2.heap.size < W3.heap.size := by omega) | skip); (first | (have q3b : w2.heap.size + 1 < W3.heap.size := by omega) | skip); clear s3)
      | (go_simp; go_at_call 29; refine Calls.mono (CO.out _ ?_) ?_; (repeat (first | exact B4.out | exact B3.out | exact BR.out | apply Nt.al | apply Nt.dr | (refine Nt.sr ?_ _ _ (by first | omega | (simp; omega) | (simp))))); rintro e W4 ⟨a4, c4, rfl, B4, ⟨z4, y4, s4⟩, BB4, I4⟩; have g5 := (CF.out W4 B4.out).1; have g6 := (CF.out W4 B4.out).2.1; have g6' := (CF.out W4 B4.out).2.2; have gq4 : w.heap.size < W4.heap.size := Nat.lt_of_lt_of_le hws B4.out.size; have gq4' : w.heap.size + 1 < W4.heap.size := Nat.lt_of_lt_of_le hws1 B4.out.size; have q4 : ∀ b, b < _ → b < W4.heap.size := fun b hb => Nat.lt_of_lt_of_le hb s4; (try simp at s4); (first | (have q4a : w2.heap.size < W4.heap.size := by omega) | skip); (first | (have q4b : w2.heap.size + 1 < W4.heap.size := by omega) | skip); (first | (have q4c : W3.heap.size < W4.heap.size := by omega) | skip); (first | (have q4d : W3.heap.size + 1 < W4.heap.size := by omega) | skip); clear s4))
    all_goals
      go_wp2_with fail
      go_meet
      refine ⟨_, _, rfl, rfl, ?_, ?_, ?_, a3, c3, a4, c4, ?_, ?_, ?_, ?_⟩
      · (repeat (first | exact B4.out | exact B3.out | exact BR.out | apply Nt.al | apply Nt.dr | (refine Nt.st ?_ _ _ _ (by first | omega | (simp; omega) | (have := B3.out.size; omega)))))
      · (first | assumption | omega | (simp; done) | (simp; omega) | (simp [*]; done))
      · (first | assumption | omega | (simp; done) | (simp; omega) | (simp [*]; done))
      · (repeat (first | assumption | exact Nt.cn _ _ _ _ (by first | omega | (simp; done) | (simp; omega)) | (refine Nt.co _ (by first | omega | (simp; done) | (simp; omega)) ?_) | (refine Nt.ss (.slice none 0 0) ?_) | (refine Nt.so (by first | omega | (simp; done) | (simp; omega)) ?_) | (refine (z4 _ _ (by first | omega | (simp; done) | (simp; omega))).trans ?_) | (refine (z3 _ _ (by first | omega | (simp; done) | (simp; omega))).trans ?_)))
      · (repeat (first | assumption | exact Nt.cn _ _ _ _ (by first | omega | (simp; done) | (simp; omega)) | (refine Nt.co _ (by first | omega | (simp; done) | (simp; omega)) ?_) | (refine Nt.ss (.slice none 0 0) ?_) | (refine Nt.so (by first | omega | (simp; done) | (simp; omega)) ?_) | (refine (z4 _ _ (by first | omega | (simp; done) | (simp; omega))).trans ?_) | (refine (z3 _ _ (by first | omega | (simp; done) | (simp; omega))).trans ?_)))
      · (repeat (first | exact I3.out | exact I4.out | refine Ru.Ints.al _ ?_ | refine Ru.Ints.bl BB4 ?_ | refine Ru.Ints.se _ ?_ ?_ | exact Ru.Sl.new _ _ _ (by first | rfl | omega | (simp; done) | (simp; omega)) | refine Ru.Sl.al _ ?_ | refine Ru.Sl.se _ ?_ | refine Ru.Sl.bl BB4 ?_ | refine Ru.Sl.bl BB3 ?_))
      · (repeat (first | exact I3.out | exact I4.out | refine Ru.Ints.al _ ?_ | refine Ru.Ints.bl BB4 ?_ | refine Ru.Ints.se _ ?_ ?_ | exact Ru.Sl.new _ _ _ (by first | rfl | omega | (simp; done) | (simp; omega)) | refine Ru.Sl.al _ ?_ | refine Ru.Sl.se _ ?_ | refine Ru.Sl.bl BB4 ?_ | refine Ru.Sl.bl BB3 ?_))
  case rest =>
  rename World => wc
  obtain ⟨bs, be, rfl, rfl, HG⟩ := hcut
  obtain ⟨p0, p1, p2⟩ := CF.out wc HG.out.1
  obtain ⟨a1, c1, a2, c2, e1, e2, i1, i2⟩ := HG.out.2.2.2
  have HI : Hid (Ru.Ints wc (.slice a1 n1 c1) (L1.map fun n : Nat => (n : Int)) ∧ Ru.Ints wc (.slice a2 n2 c2) (L2.map fun n : Nat => (n : Int))) := ⟨i1, i2⟩
  clear i1 i2
  have hiN : i < ns.length := by rw [HH.out.2.1]; exact HH.out.2.2.2.1
  obtain ⟨g, off, u, hga, hg, q0, -⟩ := HH.out.1.nds i hiN
  subst hga
  have HB : Hid (Below w.heap.size w wc) := HT.out wc HG.out.1
  have HKI : Hid (Nt.kindAt ns i = ns[i].kind) := Nt.kindAt_get ns i hiN
  obtain ⟨k, hk⟩ : ∃ k, ns[i].kind = k := ⟨_, rfl⟩
  rw [hk] at q0 HKI
  have q1 : wc.cell? ⟨g, off + i * 5, none⟩ = some (.int .i64 k) := by rw [HB.out.cell (p := ⟨g, off + i * 5, none⟩) hg]; exact q0
  have hi0 : (0 : Int) ≤ i := by omega
  have hin : (i : Int) < n := by have := HH.out.2.2.2.1; omega
  have hsz : w.heap.size ≤ wc.heap.size := HB.out.size
  clear q0 hg hk CI CO CF BR hiN H2
  have CL : Hid (∀ kd : Int, Calls Tryd.prog 69 #[.int .i64 kd, .int .i64 i, .slice a1 n1 c1, .slice a2 n2 c2] wc fun e w' => Ru.One (Ru.of kd i L1 L2) wc e w') := fun kd => Tryd.lay_any kd i (.slice a1 n1 c1) (.slice a2 n2 c2) _ _ wc HI.out.1 HI.out.2 (by rw [List.length_map]; have := HH.out.2.2.2.2.2.2.1; omega) (by rw [List.length_map]; have := HH.out.2.2.2.2.2.2.2.1; omega)
  -- one rule in a row
  have ONE : Hid (∀ (kd : Int) (e : Ending) (W : World), Ru.One (Ru.of kd i L1 L2) wc e W → R = [Ru.of kd i L1 L2] → ∃ b1 m1 d1 b2 m2 d2, e = .returned (.agg #[.int .i64 kd, .int .i64 i, .slice b1 m1 d1, .slice b2 m2 d2]) ∧
      Hid (Ru.Row 53 w.heap.size (W.alloc (.cells #[.int .i64 kd, .int .i64 i, .slice b1 m1 d1, .slice b2 m2 d2] 53)) (.slice (some ⟨W.heap.size, 0, none⟩) 1 1) R ∧ Below w.heap.size w (W.alloc (.cells #[.int .i64 kd, .int .i64 i, .slice b1 m1 d1, .slice b2 m2 d2] 53)))) := fun kd e W h hR => by
    obtain ⟨b1, m1, d1, b2, m2, d2, he, X⟩ := h.shape
    refine ⟨b1, m1, d1, b2, m2, d2, he, ?_, ?_⟩
    · refine ⟨[(Ru.of kd i L1 L2, .slice b1 m1 d1, .slice b2 m2 d2)], hR.symm, ?_, fun q hq => ?_⟩
      · exact World.ownsRow_lit W _ 1 (Nat.le_trans hsz X.out.2.2.size) (by unfold maxLen; omega) rfl
      · simp only [List.mem_cons, List.not_mem_nil, or_false] at hq
        subst hq
        exact ⟨X.out.1.al _, X.out.2.1.al _⟩
    · exact (HB.out.trans (X.out.2.2.mono hsz)).alloc (Nat.le_trans hsz X.out.2.2.size) _
  -- the kinds
  by_cases h3 : k = 3 ∨ k = 4 ∨ k = 6 ∨ k = 2
  · have hR : R = [Ru.of 1 i L1 L2] := by rw [← HR.out.1, Ru.rulesP, HKI.out, if_pos h3, HR.out.2.1, HR.out.2.2]
    rcases h3 with rfl | rfl | rfl | rfl
    all_goals
      go_wp2_with fail
      refine Calls.mono (CL.out 1) ?_
      intro e W h
      obtain ⟨b1, m1, d1, b2, m2, d2, rfl, X⟩ := ONE.out 1 e W h hR
      clear h
      go_wp2
      go_ret
      exact ⟨_, rfl, X.out.1, X.out.2⟩
  have k3 : (k == 3) = false := by simp; omega
  have k4 : (k == 4) = false := by simp; omega
  have k6 : (k == 6) = false := by simp; omega
  have k2 : (k == 2) = false := by simp; omega
  by_cases h8 : k = 8
  · have hR : R = [Ru.of 3 i L1 L2] := by rw [← HR.out.1, Ru.rulesP, HKI.out, if_neg h3, if_pos h8, HR.out.2.1, HR.out.2.2]
    subst h8
    clear h3 k3 k4 k6 k2
    go_wp2_with fail
    refine Calls.mono (CL.out 3) ?_
    intro e W h
    obtain ⟨b1, m1, d1, b2, m2, d2, rfl, X⟩ := ONE.out 3 e W h hR
    clear h
    go_wp2
    go_ret
    exact ⟨_, rfl, X.out.1, X.out.2⟩
  have k8 : (k == 8) = false := by simp; omega
  clear ONE CL
  have hbn : w.heap.size < wc.heap.size := by have := HG.out.1.size; have := HS.out; omega
  have hbi : w.heap.size + 1 < wc.heap.size := by have := HG.out.1.size; have := HS.out; omega
  have hbs := HG.out.2.1
  have hbe := HG.out.2.2.1
  by_cases h7 : k = 7
  · have hR : R = L2.map fun f => Ru.of 3 i L1 (Nt.outsL fs (Ru.toAt fs f)) := by rw [← HR.out.1, Ru.rulesP, HKI.out, if_neg h3, if_neg h8, if_pos h7, HR.out.2.1, HR.out.2.2]
    subst h7
    have HE : Hid _ := Tryd.each_any (fun f => Ru.of 3 i L1 (Nt.outsL fs (Ru.toAt fs f))) 71 #[.pointer (some ⟨w.heap.size + 1, 0, none⟩), .pointer (some ⟨bs, 0, none⟩), .pointer (some ⟨w.heap.size, 0, none⟩)] Ru.enters1 (.slice a2 n2 c2) L2 wc HI.out.2 (fun W f hf hb => by
      have hbw : Below w.heap.size w W := HB.out.trans (hb.mono hsz)
      have hc : ∀ b o, b < wc.heap.size → W.cell? ⟨b, o, none⟩ = wc.cell? ⟨b, o, none⟩ := fun b o h => hb.cell (p := ⟨b, o, none⟩) h
      have hlt := hb.size
      exact Tryd.rules1_any f i (w.heap.size + 1) bs w.heap.size (.slice a1 n1 c1) L1 (some ⟨g, off, none⟩) n cn af cf d fs W (by omega) (by omega) (by omega) (by rw [hc _ _ hbi]; exact p2) (by rw [hc _ _ hbs]; exact e1) (by rw [hc _ _ hbn]; exact p0) (by rw [hc _ _ hbn, HH.out.2.2.1]; exact p1) (HI.out.1.below hb) (by have := HH.out.2.2.2.2.2.2.1; omega) ((HH.out.1.fls.below hbw).wider hbw.size) HH.out.1.flen (HH.out.2.2.2.2.2.2.2.2 f hf)) (by have := HH.out.2.2.2.2.2.2.2.1; omega)
    clear h3 h8 k3 k4 k6 k2 hbn hbi hbs hbe
    go_wp2_with fail
    refine Calls.mono HE.out ?_
    rintro e W ⟨v, rfl, X⟩
    obtain ⟨va, vn, vc, rfl⟩ := X.out.1.form
    rw [← hR] at X
    have HY : Hid (Below w.heap.size w W) := HB.out.trans (X.out.2.mono hsz)
    go_wp2
    go_ret
    exact ⟨_, rfl, X.out.1.lower hsz, HY.out⟩
  have k7 : (k == 7) = false := by simp; omega
  by_cases h5 : k = 5
  · by_cases hgt : 1 < n2
    · have hR : R = L2.map fun f => Ru.of 2 i L1 [f] := by rw [← HR.out.1, Ru.rulesP, HKI.out, if_neg h3, if_neg h8, if_neg h7, if_pos h5, HR.out.2.1, HR.out.2.2, if_pos (by rw [HH.out.2.2.2.2.2.1]; exact hgt)]
      have hd : decide ((1 : Int) < n2) = true := decide_eq_true (by omega)
      subst h5
      have HE : Hid _ := Tryd.each_any (fun f => Ru.of 2 i L1 [f]) 72 #[.pointer (some ⟨w.heap.size + 1, 0, none⟩), .pointer (some ⟨bs, 0, none⟩)] Ru.enters2 (.slice a2 n2 c2) L2 wc HI.out.2 (fun W f hf hb => by
        have hc : ∀ b o, b < wc.heap.size → W.cell? ⟨b, o, none⟩ = wc.cell? ⟨b, o, none⟩ := fun b o h => hb.cell (p := ⟨b, o, none⟩) h
        have hlt := hb.size
        exact Tryd.rules2_any f i (w.heap.size + 1) bs (.slice a1 n1 c1) L1 W (by omega) (by omega) (by rw [hc _ _ hbi]; exact p2) (by rw [hc _ _ hbs]; exact e1) (HI.out.1.below hb) (by have := HH.out.2.2.2.2.2.2.1; omega)) (by have := HH.out.2.2.2.2.2.2.2.1; omega)
      clear h3 h7 h8 k3 k4 k6 k2 k8 k7 hbn hbi hbs hbe hgt
      go_wp2_with fail
      refine Calls.mono HE.out ?_
      rintro e W ⟨v, rfl, X⟩
      obtain ⟨va, vn, vc, rfl⟩ := X.out.1.form
      rw [← hR] at X
      have HY : Hid (Below w.heap.size w W) := HB.out.trans (X.out.2.mono hsz)
      go_wp2
      go_ret
      exact ⟨_, rfl, X.out.1.lower hsz, HY.out⟩
    · have hR : R = L1.map fun f => Ru.of 1 i [f] L2 := by rw [← HR.out.1, Ru.rulesP, HKI.out, if_neg h3, if_neg h8, if_neg h7, if_pos h5, HR.out.2.1, HR.out.2.2, if_neg (by rw [HH.out.2.2.2.2.2.1]; exact hgt)]
      have hd : decide ((1 : Int) < n2) = false := decide_eq_false (by omega)
      subst h5
      have HE : Hid _ := Tryd.each_any (fun f => Ru.of 1 i [f] L2) 73 #[.pointer (some ⟨w.heap.size + 1, 0, none⟩), .pointer (some ⟨be, 0, none⟩)] Ru.enters3 (.slice a1 n1 c1) L1 wc HI.out.1 (fun W f hf hb => by
        have hc : ∀ b o, b < wc.heap.size → W.cell? ⟨b, o, none⟩ = wc.cell? ⟨b, o, none⟩ := fun b o h => hb.cell (p := ⟨b, o, none⟩) h
        have hlt := hb.size
        exact Tryd.rules3_any f i (w.heap.size + 1) be (.slice a2 n2 c2) L2 W (by omega) (by omega) (by rw [hc _ _ hbi]; exact p2) (by rw [hc _ _ hbe]; exact e2) (HI.out.2.below hb) (by have := HH.out.2.2.2.2.2.2.2.1; omega)) (by have := HH.out.2.2.2.2.2.2.1; omega)
      clear h3 h7 h8 k3 k4 k6 k2 k8 k7 hbn hbi hbs hbe hgt
      go_wp2_with fail
      refine Calls.mono HE.out ?_
      rintro e W ⟨v, rfl, X⟩
      obtain ⟨va, vn, vc, rfl⟩ := X.out.1.form
      rw [← hR] at X
      have HY : Hid (Below w.heap.size w W) := HB.out.trans (X.out.2.mono hsz)
      go_wp2
      go_ret
      exact ⟨_, rfl, X.out.1.lower hsz, HY.out⟩
  have k5 : (k == 5) = false := by simp; omega
  have hR : R = [] := by rw [← HR.out.1, Ru.rulesP, HKI.out, if_neg h3, if_neg h8, if_neg h7, if_neg h5]
  clear h3 h8 h7 h5 hbn hbi hbs hbe
  go_wp2
  go_ret
  exact ⟨_, rfl, by rw [hR]; exact Ru.row_nil _ _ _, HB.out⟩

end Go.Proofs
