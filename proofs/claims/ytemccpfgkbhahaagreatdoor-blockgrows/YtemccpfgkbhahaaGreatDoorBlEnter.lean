/-
  block.stand's closures: a block's nodes entered, and formed of each block.
-/
import Derived.Test.YtemccpfgkbhahaaGreatDoorBlNodes
import Derived.Test.YtemccpfgkbhahaaGreatDoorAllBlForm
import Derived.Test.YtemccpfgkbhahaaGreatDoorBlGo
import Derived.Test.YtemccpfgkbhahaaGreatDoorNtFour
namespace Go.Proofs
open Go.RowKit Go.Shelf

theorem Tryz.bformed_any (d dn B : Nat) (T : Bl) (v u : Value) (an : Option Addr) (cn : Nat) (af : Option Addr) (cf : Nat) (ns : List Nd) (fs : List Fl) (w : World) (hT : Bl.Lies w B d v u T) (hN : Nt.Has w B dn an af ns fs) (hB : B ≤ w.heap.size) (hk : T.ks.length ≤ 2147483647) :
    Calls Tryz.prog 30 #[.agg #[.slice an ns.length cn, .slice af fs.length cf], .agg #[.int .i64 T.kind, .int .i64 T.node, .int .i64 T.arg, v, u]] w fun e w' => e = .returned (.bool (T.formedB ns fs)) ∧ Below w.heap.size w w' := by
  by_cases h : T.kind < 1 ∨ 10 < T.kind
  · exact Tryz.bformed_other d dn B T v u an cn af cf ns fs w hT hN hB hk h
  · obtain h | h | h | h | h | h | h | h | h | h : T.kind = 1 ∨ T.kind = 2 ∨ T.kind = 3 ∨ T.kind = 4 ∨ T.kind = 5 ∨ T.kind = 6 ∨ T.kind = 7 ∨ T.kind = 8 ∨ T.kind = 9 ∨ T.kind = 10 := by omega
    · exact Tryz.bformed_1 d dn B T v u an cn af cf ns fs w hT hN hB hk h
    · exact Tryz.bformed_2 d dn B T v u an cn af cf ns fs w hT hN hB hk h
    · exact Tryz.bformed_3 d dn B T v u an cn af cf ns fs w hT hN hB hk h
    · exact Tryz.bformed_4 d dn B T v u an cn af cf ns fs w hT hN hB hk h
    · exact Tryz.bformed_5 d dn B T v u an cn af cf ns fs w hT hN hB hk h
    · exact Tryz.bformed_6 d dn B T v u an cn af cf ns fs w hT hN hB hk h
    · exact Tryz.bformed_7 d dn B T v u an cn af cf ns fs w hT hN hB hk h
    · exact Tryz.bformed_8 d dn B T v u an cn af cf ns fs w hT hN hB hk h
    · exact Tryz.bformed_9 d dn B T v u an cn af cf ns fs w hT hN hB hk h
    · exact Tryz.bformed_10 d dn B T v u an cn af cf ns fs w hT hN hB hk h

/-- Nodes entered, till one stands there already. -/
def Bl.enterAll : List Nat → List Bool → Bool × List Bool
  | [], bs => (false, bs)
  | x :: r, bs => if bs[x]? = some true then (true, bs.set x true) else Bl.enterAll r (bs.set x true)
theorem Bl.enterAll_len : ∀ (l : List Nat) (bs : List Bool), (Bl.enterAll l bs).2.length = bs.length
  | [], bs => rfl
  | x :: r, bs => by
    rw [Bl.enterAll]
    split
    · simp
    · rw [Bl.enterAll_len r]; simp

set_option maxRecDepth 20000 in
set_option maxHeartbeats 2000000 in
theorem Tryz.enter_any (i b : Nat) (bs : List Bool) (x : Bool) (w : World) (h : Nt.Bt w b bs) (hi : i < 24) (hx : bs[i]? = some x) :
    Calls Tryz.prog 31 #[.int .i64 (i : Int), .pointer (some ⟨b, 0, none⟩)] w fun e w' => e = .returned (.bool x) ∧ Nt.Bt w' b (bs.set i true) ∧ Tk.But (fun k => k = b) w w' := by
  have c0 := h.cell i x hx
  have f0 := h.frozen i
  have hi' : (i : Int) < 24 := by omega
  have hi0 : (0 : Int) ≤ i := by omega
  have HP : Hid (Nt.Bt (w.setCell ⟨b, i, none⟩ (.bool true)) b (bs.set i true) ∧ Tk.But (fun k => k = b) w (w.setCell ⟨b, i, none⟩ (.bool true))) := ⟨h.put i true, (Tk.But.refl _ w).setCell (E := fun k => k = b) (p := ⟨b, i, none⟩) rfl _⟩
  clear h hx
  go_enter Tryz.func31, Tryz.ntmps31
  go_wp2
  go_ret
  exact ⟨rfl, HP.out.1, HP.out.2⟩

set_option maxRecDepth 20000 in
set_option maxHeartbeats 4000000 in
theorem Tryz.enterIndex_any (xs : List Nat) (b B : Nat) (bs : List Bool) (a : Option Addr) (n c : Nat) (w : World) (hO : w.ownsRow B 3 1 (.slice a n c) n (Rk.nums xs)) (hB : b < B) (h : Nt.Bt w b bs) (hl : bs.length = 24) (hx : ∀ x, x ∈ xs → x < 24) (hn : xs.length = n) (hs : n ≤ 2147483647) :
    Calls Tryz.prog 50 #[.slice a n c, .func (.func 31) #[] #[.pointer (some ⟨b, 0, none⟩)]] w fun e w' => (∃ k : Int, e = .returned (.int .i64 k) ∧ decide (0 ≤ k) = (Bl.enterAll xs bs).1) ∧ Nt.Bt w' b (Bl.enterAll xs bs).2 ∧ Tk.But (fun k => k = b) w w' := by
  have HO : Hid (w.ownsRow B 3 1 (.slice a n c) n (Rk.nums xs) ∧ b < B ∧ Nt.Bt w b bs ∧ bs.length = 24 ∧ (∀ x, x ∈ xs → x < 24) ∧ xs.length = n) := ⟨hO, hB, h, hl, hx, hn⟩
  obtain ⟨R, hR⟩ : ∃ z, Bl.enterAll xs bs = z := ⟨_, rfl⟩
  rw [hR]
  have HR : Hid (Bl.enterAll xs bs = R) := hR
  clear hO hB h hl hx hn hR
  go_enter Tryz.func50, Tryz.ntmps50
  go_wp2
  go_loopg [5, 8] n (fun gk _ s8 wr => ∃ (k : Nat) (cs : List Bool), gk + k = n ∧ s8 = .int .i64 k ∧ Hid (Tk.But (fun k => k = b) w wr ∧ Nt.Bt wr b cs ∧ cs.length = 24 ∧ Bl.enterAll (xs.drop k) cs = R))
  case atStart => exact ⟨0, bs, by omega, rfl, Tk.But.refl _ _, HO.out.2.2.1, HO.out.2.2.2.1, HR.out⟩
  case round =>
    obtain ⟨k, cs, hk, rfl, HB⟩ := hrel
    by_cases hlt : k < n
    · have hd : decide ((k : Int) < n) = true := decide_eq_true (by omega)
      have hkl : k < xs.length := by rw [HO.out.2.2.2.2.2]; exact hlt
      rcases HO.out.1.2 with ⟨_, hz⟩ | ⟨g, cap2, cur, hv, hgB, hgc, hgr⟩
      · omega
      · simp only [Value.slice.injEq] at hv
        obtain ⟨rfl, -, rfl⟩ := hv
        have hoc := HO.out.1.cells (g := g) rfl k (.int .i64 (xs[k] : Int)) (by simp [Rk.nums, hkl])
        have ha : ((⟨g, 0, none⟩ : Addr).add k) = ⟨g, k, none⟩ := by cases k <;> simp [Addr.add]
        rw [ha] at hoc
        have hx24 := HO.out.2.2.2.2.1 _ (List.getElem_mem hkl)
        obtain ⟨x, hx⟩ : ∃ x, xs[k] = x := ⟨_, rfl⟩
        rw [hx] at hoc hx24
        have c0 : wr.cell? ⟨g, k, none⟩ = some (.int .i64 (x : Int)) := by
          rw [World.cell?_of_block (w := w) (a := ⟨g, k, none⟩) (HB.out.1.block g (Array.getElem?_eq_some_iff.1 hgc).1 (by have := HO.out.2.1; omega))]
          exact hoc
        obtain ⟨y, hy⟩ : ∃ y, cs[x]? = some y := ⟨_, List.getElem?_eq_getElem (by rw [HB.out.2.2.1]; exact hx24)⟩
        have HC : Hid _ := Tryz.enter_any x b cs y wr HB.out.2.1 hx24 hy
        have HE : Hid (Bl.enterAll (xs.drop k) cs = if y = true then (true, cs.set x true) else Bl.enterAll (xs.drop (k + 1)) (cs.set x true)) := by
          show _ = _
          rw [List.drop_eq_getElem_cons hkl, hx, Bl.enterAll, hy]
          simp
        have hkn : (k : Int) < n := by omega
        have hk0 : (0 : Int) ≤ k := by omega
        clear hoc hgc hgr hgB ha hx hx24 hy hkl
        go_wp2_with fail
        refine Calls.mono HC.out ?_
        rintro e W1 ⟨rfl, hb1, hb2⟩
        have X : Hid (Tk.But (fun k => k = b) w W1 ∧ Nt.Bt W1 b (cs.set x true)) := ⟨HB.out.1.trans hb2, hb1⟩
        clear HC hb1 hb2 c0
        cases y with
        | true =>
          have HZ : Hid (R = (true, cs.set x true)) := by show _ = _; rw [← HB.out.2.2.2, HE.out]; rfl
          go_wp2
          go_ret
          refine ⟨⟨k, rfl, ?_⟩, ?_, X.out.1⟩
          · rw [HZ.out]; exact decide_eq_true (by omega)
          · rw [HZ.out]; exact X.out.2
        | false =>
          have HZ : Hid (Bl.enterAll (xs.drop (k + 1)) (cs.set x true) = R) := by show _ = _; rw [← HB.out.2.2.2, HE.out]; rfl
          have HL : Hid ((cs.set x true).length = 24) := by show _ = _; rw [List.length_set]; exact HB.out.2.2.1
          go_wp2
          go_roundg (gk - 1)
          case measure => omega
          case rel => exact ⟨k + 1, cs.set x true, by omega, by go_num, X.out.1, X.out.2, HL.out, HZ.out⟩
    · have hd : decide ((k : Int) < n) = false := decide_eq_false (by omega)
      have HZ : Hid (R = (false, cs)) := by
        show _ = _
        rw [← HB.out.2.2.2, List.drop_of_length_le (by have := HO.out.2.2.2.2.2; omega)]
        rfl
      go_wp2
      go_ret
      refine ⟨⟨-1, rfl, ?_⟩, ?_, HB.out.1⟩
      · rw [HZ.out]; rfl
      · rw [HZ.out]; exact HB.out.2.1

set_option maxHeartbeats 2000000 in
theorem Tryz.enterContains_any (xs : List Nat) (b B : Nat) (bs : List Bool) (a : Option Addr) (n c : Nat) (w : World) (hO : w.ownsRow B 3 1 (.slice a n c) n (Rk.nums xs)) (hB : b < B) (h : Nt.Bt w b bs) (hl : bs.length = 24) (hx : ∀ x, x ∈ xs → x < 24) (hn : xs.length = n) (hs : n ≤ 2147483647) :
    Calls Tryz.prog 33 #[.slice a n c, .func (.func 31) #[] #[.pointer (some ⟨b, 0, none⟩)]] w fun e w' => e = .returned (.bool (Bl.enterAll xs bs).1) ∧ Nt.Bt w' b (Bl.enterAll xs bs).2 ∧ Tk.But (fun k => k = b) w w' := by
  have HC : Hid _ := Tryz.enterIndex_any xs b B bs a n c w hO hB h hl hx hn hs
  obtain ⟨R, hR⟩ : ∃ z, Bl.enterAll xs bs = z := ⟨_, rfl⟩
  rw [hR] at HC ⊢
  obtain ⟨r1, r2⟩ := R
  clear hO hB h hl hx hn hR
  go_enter Tryz.func33, Tryz.ntmps33
  go_wp2_with fail
  refine Calls.mono HC.out ?_
  rintro e W1 ⟨⟨k, rfl, hk⟩, hb1, hb2⟩
  have X : Hid (Nt.Bt W1 b r2 ∧ Tk.But (fun k => k = b) w W1 ∧ decide (0 ≤ k) = r1) := ⟨hb1, hb2, hk⟩
  clear HC hb1 hb2 hk
  go_wp2
  go_ret
  exact ⟨Tk.ret_bool X.out.2.2, X.out.1, X.out.2.1⟩

/-- What stand's closures meet: the process in memory and in its box bn, the marks in b, enter in its box be. -/
structure Bk.Sd (B d : Nat) (an : Option Addr) (cn : Nat) (af : Option Addr) (cf : Nat) (ns : List Nd) (fs : List Fl) (bn b be : Nat) (bs : List Bool) (W : World) : Prop where
  has : Nt.Has W B d an af ns fs
  box : W.heap[bn]? = some (.cells #[.slice an ns.length cn, .slice af fs.length cf] 25 (0, 0))
  marks : Nt.Bt W b bs
  len : bs.length = 24
  fn : ∃ t, W.heap[be]? = some (.cells #[.func (.func 31) #[] #[.pointer (some ⟨b, 0, none⟩)]] t (0, 0))

/-- What is right of a block that is entered. -/
def Bk.Rg (_ns : List Nd) (fs : List Fl) (T : Bl) : Prop := (∀ x, x ∈ Bl.nodesL fs T.kind T.node → x < 24) ∧ 0 ≤ T.node

set_option maxRecDepth 20000 in
set_option maxHeartbeats 8000000 in
theorem Tryz.stand3_any (B d dt : Nat) (an : Option Addr) (cn : Nat) (af : Option Addr) (cf : Nat) (ns : List Nd) (fs : List Fl) (bn b be : Nat) (bs : List Bool) (T : Bl) (v u : Value) (w : World) (h : Bk.Sd B d an cn af cf ns fs bn b be bs w) (hT : Bl.Lies w B dt v u T) (hB : B ≤ w.heap.size) (hne : bn ≠ b ∧ be ≠ b ∧ B ≤ b) (hR : Bk.Rg ns fs T) (hto : ∀ f, f ∈ fs → 0 ≤ f.to) :
    Calls Tryz.prog 32 #[.agg #[.int .i64 T.kind, .int .i64 T.node, .int .i64 T.arg, v, u], .pointer (some ⟨bn, 0, none⟩), .pointer (some ⟨be, 0, none⟩)] w fun e w' => e = .returned (.bool (!(Bl.enterAll (Bl.nodesL fs T.kind T.node) bs).1)) ∧ Nt.Bt w' b (Bl.enterAll (Bl.nodesL fs T.kind T.node) bs).2 ∧ Tk.But (fun k => k = b) w w' := by
  obtain ⟨a, c, rfl⟩ := hT.shape
  obtain ⟨al, cl, rfl⟩ := hT.links.shape
  obtain ⟨o, ho⟩ : ∃ o, T.kind = o := ⟨_, rfl⟩
  obtain ⟨i, hi⟩ : ∃ i : Nat, T.node = i := ⟨T.node.toNat, by have := hR.2; omega⟩
  obtain ⟨r, hr⟩ : ∃ m, T.arg = m := ⟨_, rfl⟩
  obtain ⟨nk, hnk⟩ : ∃ n, T.ks.length = n := ⟨_, rfl⟩
  obtain ⟨nl, hnl⟩ : ∃ n, T.ls.length = n := ⟨_, rfl⟩
  rw [ho, hi, hr, hnk, hnl]
  obtain ⟨hR1, -⟩ := hR
  rw [ho, hi] at hR1
  obtain ⟨n, hn⟩ : ∃ n, ns.length = n := ⟨_, rfl⟩
  obtain ⟨m, hm⟩ : ∃ n, fs.length = n := ⟨_, rfl⟩
  obtain ⟨tf, hfn⟩ := h.fn
  have hbox := h.box
  rw [hn, hm] at hbox
  obtain ⟨W0, hW0⟩ : ∃ z, w.alloc (.cells #[.int .i64 o, .int .i64 (i : Int), .int .i64 r, .slice a nk c, .slice al nl cl] 29) = z := ⟨_, rfl⟩
  have A0 : Below w.heap.size w W0 := by rw [← hW0]; exact (Below.refl _ w).alloc (Nat.le_refl _) _
  have G0 : W0.heap[w.heap.size]? = some (.cells #[.int .i64 o, .int .i64 (i : Int), .int .i64 r, .slice a nk c, .slice al nl cl] 29 (0, 0)) := by rw [← hW0]; exact heap_alloc_new w _
  have hbl := h.marks.lt
  have hbnl : bn < w.heap.size := (Array.getElem?_eq_some_iff.1 hbox).1
  have hbel : be < w.heap.size := (Array.getElem?_eq_some_iff.1 hfn).1
  have hz0 : w.heap.size < W0.heap.size := (Array.getElem?_eq_some_iff.1 G0).1
  obtain ⟨xs, hxs⟩ : ∃ l, Bl.nodesL fs o (i : Int) = l := ⟨_, rfl⟩
  rw [hxs] at hR1 ⊢
  obtain ⟨nx, hnx⟩ : ∃ l, xs.length = l := ⟨_, rfl⟩
  have hnx1 : nx ≤ 101 := by
    rw [← hnx, ← hxs, Bl.nodesL]
    have h1 := List.length_filter_le (fun k => decide ((fs[k]?.map Fl.fr) = some (i : Int))) (List.range fs.length)
    rw [List.length_range] at h1
    have h2 := h.has.flen
    split
    · simp
    · split
      · simp only [List.length_cons, Bl.tos, List.length_map]
        have : (Nt.outsL fs (i : Int)).length ≤ fs.length := h1
        omega
      · simp
  have CF : Hid (∀ W, Tk.But (fun k => k = b) W0 W → (W.cell? ⟨bn, 0, none⟩ = some (.slice an n cn) ∧ W.cell? ⟨bn, 1, none⟩ = some (.slice af m cf)) ∧ (W.cell? ⟨w.heap.size, 0, none⟩ = some (.int .i64 o) ∧ W.cell? ⟨w.heap.size, 1, none⟩ = some (.int .i64 (i : Int)) ∧ W.cell? ⟨w.heap.size, 2, none⟩ = some (.int .i64 r) ∧ W.cell? ⟨w.heap.size, 3, none⟩ = some (.slice a nk c) ∧ W.cell? ⟨w.heap.size, 4, none⟩ = some (.slice al nl cl)) ∧ W.cell? ⟨be, 0, none⟩ = some (.func (.func 31) #[] #[.pointer (some ⟨b, 0, none⟩)])) := fun W hb => by
    have e1 := ((hb.block bn (by omega) hne.1).trans (A0.block bn hbnl)).trans hbox
    have e2 := (hb.block w.heap.size hz0 (by omega)).trans G0
    have e3 := ((hb.block be (by omega) hne.2.1).trans (A0.block be hbel)).trans hfn
    exact ⟨⟨by simp [World.cell?, e1], by simp [World.cell?, e1]⟩, ⟨by simp [World.cell?, e2], by simp [World.cell?, e2], by simp [World.cell?, e2], by simp [World.cell?, e2], by simp [World.cell?, e2]⟩, by simp [World.cell?, e3]⟩
  have C1 : Hid (∀ W, Below W0.heap.size W0 W → Calls Tryz.prog 34 #[.agg #[.slice an n cn, .slice af m cf], .agg #[.int .i64 o, .int .i64 (i : Int), .int .i64 r, .slice a nk c, .slice al nl cl]] W fun e w' => ∃ ax cx, e = .returned (.slice ax nx cx) ∧ Hid (Below W0.heap.size W0 w' ∧ Below W.heap.size W w' ∧ w'.ownsRow W.heap.size 3 1 (.slice ax nx cx) nx (Rk.nums xs))) := fun W hb => by
    have hb2 := A0.trans (hb.mono A0.size)
    have h1 := Tryz.bnodes_any o i r a nk c al nl cl an n cn af cf B d fs W (h.has.fls.below (hb2.mono hB)) (Nat.le_trans hB hb2.size) h.has.flen hto
    rw [hm, hxs] at h1
    refine h1.mono ?_
    rintro e w' ⟨v, rfl, ho, hb'⟩
    rw [hnx] at ho
    obtain ⟨ax, cx, rfl⟩ := Rk.own_shape ho
    exact ⟨ax, cx, rfl, hb.trans (hb'.mono hb.size), hb', ho⟩
  obtain ⟨R, hRR⟩ : ∃ z, Bl.enterAll xs bs = z := ⟨_, rfl⟩
  rw [hRR]
  obtain ⟨r1, r2⟩ := R
  have C2 : Hid (∀ (W1 W2 : World) (ax : Option Addr) (cx : Nat), Below W0.heap.size W0 W1 → W2.ownsRow W1.heap.size 3 1 (.slice ax nx cx) nx (Rk.nums xs) → Below W1.heap.size W1 W2 → ∀ W, Below W2.heap.size W2 W → Calls Tryz.prog 33 #[.slice ax nx cx, .func (.func 31) #[] #[.pointer (some ⟨b, 0, none⟩)]] W fun e w' => e = .returned (.bool r1) ∧ Hid (Nt.Bt w' b r2 ∧ Tk.But (fun k => k = b) W0 w')) := fun W1 W2 ax cx hb1 ho hb2 W hb => by
    have k2 : Below W0.heap.size W0 W2 := hb1.trans (hb2.mono hb1.size)
    have k3 : Below W0.heap.size W0 W := k2.trans (hb.mono k2.size)
    have k4 := A0.trans (k3.mono A0.size)
    have h1 := Tryz.enterContains_any xs b W1.heap.size bs ax nx cx W (Rk.own_below ho hb) (by have := hb1.size; omega) (h.marks.keep (k4.block b hbl)) h.len hR1 hnx (by omega)
    rw [hRR] at h1
    exact h1.mono fun _ _ q => ⟨q.1, q.2.1, (Tk.But.of_below k3).trans q.2.2⟩
  have HA : Hid (∀ W, Tk.But (fun k => k = b) W0 W → Tk.But (fun k => k = b) w W) := fun W hb => (Tk.But.of_below A0).trans hb
  have HW0 : Hid _ := hW0
  have BR : Hid (Below W0.heap.size W0 W0) := Below.refl _ _
  clear h hT hB hne hR1 hto ho hi hr hnk hnl hn hm hbox hfn hW0 A0 G0 hbl hbnl hbel hz0 hxs hnx hRR
  cases r1
  all_goals
    go_enter Tryz.func32, Tryz.ntmps32
    go_upto_region 1 with fail
    rw [HW0.out]
    go_region_held3 (fun W => (W.cell? ⟨bn, 0, none⟩ = some (.slice an n cn) ∧ W.cell? ⟨bn, 1, none⟩ = some (.slice af m cf)) ∧ (W.cell? ⟨w.heap.size, 0, none⟩ = some (.int .i64 o) ∧ W.cell? ⟨w.heap.size, 1, none⟩ = some (.int .i64 (i : Int)) ∧ W.cell? ⟨w.heap.size, 2, none⟩ = some (.int .i64 r) ∧ W.cell? ⟨w.heap.size, 3, none⟩ = some (.slice a nk c) ∧ W.cell? ⟨w.heap.size, 4, none⟩ = some (.slice al nl cl)) ∧ W.cell? ⟨be, 0, none⟩ = some (.func (.func 31) #[] #[.pointer (some ⟨b, 0, none⟩)]))
      (first | exact CF.out _ H4.out.2 | exact CF.out _ (Tk.But.of_below H3.out.1) | exact CF.out _ (Tk.But.of_below BR.out.drew) | exact CF.out _ (Tk.But.of_below BR.out))
      (first
      | (go_simp; go_at_call 34; (first | (refine Calls.mono (C1.out _ BR.out) ?_; rintro e W3 ⟨ax, cx, rfl, H3⟩; have BB : Hid (Below W0.heap.size W0 W0) := Below.refl _ _) | (refine Calls.mono (C1.out _ BR.out.drew) ?_; rintro e W3 ⟨ax, cx, rfl, H3⟩; have BB : Hid (Below W0.heap.size W0 W0.drew) := (Below.refl _ _).drew)))
      | (go_simp; go_at_call 33; refine Calls.mono (C2.out _ W3 ax cx BB.out H3.out.2.2 H3.out.2.1 _ ?_) ?_; (first | exact Below.refl _ _ | exact (Below.refl _ _).drew | exact Tk.below_drewN (Below.refl _ _) _); rintro e W4 ⟨rfl, H4⟩))
    all_goals
      have HF : Hid (Tk.But (fun k => k = b) w W4 ∧ Nt.Bt W4 b r2) := ⟨HA.out W4 H4.out.2, H4.out.1⟩
      clear C1 C2 CF HA
      go_simp
      go_wp2
      go_ret
      exact ⟨rfl, HF.out.2, HF.out.1⟩

end Go.Proofs
