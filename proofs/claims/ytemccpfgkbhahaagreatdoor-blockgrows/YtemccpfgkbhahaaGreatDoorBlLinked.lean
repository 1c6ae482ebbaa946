/-
  block.splits and linked: a web's links.
-/
import Derived.Test.YtemccpfgkbhahaaGreatDoorBlOf
import Derived.Test.YtemccpfgkbhahaaGreatDoorNtIns
namespace Go.Proofs
open Go.RowKit

/-- Is the block's node a splitting one of the kind, with as many outs as there are kids? -/
def Bl.splitsB (ns : List Nd) (fs : List Fl) (nd : Int) (nk : Nat) (kd : Int) : Bool := Nt.ofKinds ns nd [kd] && decide (2 ≤ (Nt.outsL fs nd).length ∧ nk = (Nt.outsL fs nd).length)

theorem Bk.nums_one {w : World} {b : Nat} {x : Int} {t : TypeId} (h : w.heap[b]? = some (.cells #[.int .i64 x] t (0, 0))) : Bk.Nums w w.heap.size (some ⟨b, 0, none⟩) [x] := fun j hj => by
  obtain rfl : j = 0 := by simpa using hj
  exact ⟨b, 0, rfl, (Array.getElem?_eq_some_iff.1 h).1, by simp [World.cell?, h]⟩

set_option maxRecDepth 20000 in
set_option maxHeartbeats 4000000 in
theorem Tryz.bsplits_any (kd : Int) (k nd r : Int) (a : Option Addr) (nk c : Nat) (al : Option Addr) (nl cl : Nat) (an : Option Addr) (cn : Nat) (af : Option Addr) (cf B d : Nat) (ns : List Nd) (fs : List Fl) (w : World) (hN : Nt.Has w B d an af ns fs) (hB : B ≤ w.heap.size) (_hk : nk ≤ 2147483647) :
    Calls Tryz.prog 49 #[.agg #[.slice an ns.length cn, .slice af fs.length cf], .agg #[.int .i64 k, .int .i64 nd, .int .i64 r, .slice a nk c, .slice al nl cl], .int .i64 kd] w fun e w' => e = .returned (.bool (Bl.splitsB ns fs nd nk kd)) ∧ Below w.heap.size w w' := by
  obtain ⟨n, hn⟩ : ∃ n, ns.length = n := ⟨_, rfl⟩
  obtain ⟨m, hm⟩ : ∃ n, fs.length = n := ⟨_, rfl⟩
  rw [hn, hm]
  obtain ⟨W0, hW0⟩ : ∃ z, (w.alloc (.cells #[.slice an n cn, .slice af m cf] 25)).alloc (.cells #[.int .i64 k, .int .i64 nd, .int .i64 r, .slice a nk c, .slice al nl cl] 29) = z := ⟨_, rfl⟩
  have A0 : Below w.heap.size w W0 := by rw [← hW0]; exact ((Below.refl _ w).alloc (Nat.le_refl _) _).alloc (by simp) _
  have S0 : W0.heap.size = w.heap.size + 2 := by rw [← hW0]; simp
  have G1 : W0.heap[w.heap.size]? = some (.cells #[.slice an n cn, .slice af m cf] 25 (0, 0)) := by rw [← hW0, Below.heap_alloc _ _ _ (by simp)]; exact heap_alloc_new w _
  have G2 : W0.heap[w.heap.size + 1]? = some (.cells #[.int .i64 k, .int .i64 nd, .int .i64 r, .slice a nk c, .slice al nl cl] 29 (0, 0)) := by
    rw [← hW0]
    have := heap_alloc_new (w.alloc (.cells #[.slice an n cn, .slice af m cf] 25)) (.cells #[.int .i64 k, .int .i64 nd, .int .i64 r, .slice a nk c, .slice al nl cl] 29)
    simpa using this
  have CF : Hid (∀ W, Below W0.heap.size W0 W → (W.cell? ⟨w.heap.size, 0, none⟩ = some (.slice an n cn) ∧ W.cell? ⟨w.heap.size, 1, none⟩ = some (.slice af m cf)) ∧ (W.cell? ⟨w.heap.size + 1, 1, none⟩ = some (.int .i64 nd) ∧ W.cell? ⟨w.heap.size + 1, 3, none⟩ = some (.slice a nk c)) ∧ Below w.heap.size w W) := fun W hb => by
    have e1 := (hb.block _ (by omega)).trans G1
    have e2 := (hb.block _ (by omega)).trans G2
    exact ⟨⟨by simp [World.cell?, e1], by simp [World.cell?, e1]⟩, ⟨by simp [World.cell?, e2], by simp [World.cell?, e2]⟩, A0.trans (hb.mono (by omega))⟩
  obtain ⟨q, hq⟩ : ∃ q, Nt.ofKinds ns nd [kd] = q := ⟨_, rfl⟩
  obtain ⟨ol, hol⟩ : ∃ q, (Nt.outsL fs nd).length = q := ⟨_, rfl⟩
  have C1 : Hid (Calls Tryz.prog 25 #[.agg #[.slice an n cn, .slice af m cf], .int .i64 nd, .slice (some ⟨W0.heap.size, 0, none⟩) 1 1] (W0.alloc (.cells #[.int .i64 kd] 3)) fun e w' => e = .returned (.bool q) ∧ Hid (Below W0.heap.size W0 w')) := by
    show Calls _ _ _ _ _
    have A1 : Below W0.heap.size W0 (W0.alloc (.cells #[.int .i64 kd] 3)) := (Below.refl _ _).alloc (Nat.le_refl _) _
    have A2 := A0.trans (A1.mono A0.size)
    have h := Tryz.bisOf_any nd [kd] (some ⟨W0.heap.size, 0, none⟩) 1 an cn af m cf _ d ns (W0.alloc (.cells #[.int .i64 kd] 3)) ((hN.below (A2.mono hB)).wider (Nat.le_trans hB A2.size)).nds (Bk.nums_one (heap_alloc_new W0 _)) (Nat.le_refl _) (by simp)
    rw [hn, hq] at h
    exact h.mono fun _ _ q => ⟨q.1, A1.trans (q.2.mono A1.size)⟩
  have C2 : Hid (∀ W, Below W0.heap.size W0 W → Calls Tryz.prog 51 #[.agg #[.slice an n cn, .slice af m cf], .int .i64 nd] W fun e w' => ∃ ao co, e = .returned (.slice ao ol co) ∧ Hid (Below W0.heap.size W0 w')) := fun W hb => by
    have A2 := A0.trans (hb.mono A0.size)
    have hN' := (hN.below (A2.mono hB)).wider (Nat.le_trans hB A2.size)
    have h := Tryz.nOuts_any nd an n cn af cf d fs W hN'.fls (by have := hN'.flen; omega)
    rw [hm] at h
    refine h.mono ?_
    rintro e w' ⟨v, rfl, ho, hb'⟩
    rw [hol] at ho
    obtain ⟨ao, co, rfl⟩ := Rk.own_shape ho
    exact ⟨ao, co, rfl, hb.trans (hb'.mono hb.size)⟩
  have HO : Hid (ol ≤ 100) := by
    show ol ≤ 100
    rw [← hol]
    have h1 := hN.flen
    have h2 : (Nt.outsL fs nd).length ≤ fs.length := by
      have h := List.length_filter_le (fun k => decide ((fs[k]?.map Fl.fr) = some nd)) (List.range fs.length)
      rw [List.length_range] at h
      exact h
    omega
  rw [Bl.splitsB, hq, hol]
  obtain ⟨R, hR⟩ : ∃ R, (q && decide (2 ≤ ol ∧ nk = ol)) = R := ⟨_, rfl⟩
  rw [hR]
  have HR : Hid ((q && decide (2 ≤ ol ∧ nk = ol)) = R) := hR
  clear hR
  have HW0 : Hid _ := hW0
  have BR : Hid (Below W0.heap.size W0 W0) := Below.refl _ _
  clear hN hn hm hW0 A0 S0 G1 G2 hq hol
  go_enter Tryz.func49, Tryz.ntmps49
  go_upto_region 1 with fail
  rw [HW0.out]
  clear HW0
  obtain ⟨⟨x0, x1⟩, ⟨y1, y3⟩, -⟩ := CF.out W0 BR.out
  go_wp2_with fail
  refine Calls.mono C1.out ?_
  rintro e W1 ⟨rfl, B1⟩
  clear x0 x1 y1 y3 C1
  obtain ⟨⟨x0, x1⟩, ⟨y1, y3⟩, HF⟩ := CF.out W1 B1.out
  have HF1 : Hid _ := HF
  clear HF
  cases q with
  | false =>
    go_wp2
    go_ret
    exact ⟨by rw [← HR.out]; rfl, HF1.out⟩
  | true =>
    go_wp2_with fail
    refine Calls.mono (C2.out _ B1.out) ?_
    rintro e W2 ⟨ao, co, rfl, B2⟩
    clear x0 x1 y1 y3 C2
    obtain ⟨⟨x0, x1⟩, ⟨y1, y3⟩, HF⟩ := CF.out W2 B2.out
    have HF2 : Hid _ := HF
    clear HF
    have hob := HO.out
    obtain ⟨e0, e1, hR⟩ | ⟨e0, e1, hR⟩ | ⟨e0, hR⟩ : (decide ((2 : Int) ≤ ol) = true ∧ ((nk : Int) == ol) = true ∧ decide (2 ≤ ol ∧ nk = ol) = true) ∨ (decide ((2 : Int) ≤ ol) = true ∧ ((nk : Int) == ol) = false ∧ decide (2 ≤ ol ∧ nk = ol) = false) ∨ (decide ((2 : Int) ≤ ol) = false ∧ decide (2 ≤ ol ∧ nk = ol) = false) := by
      simp; omega
    all_goals
      rw [hR] at HR
      clear hR
      go_wp2
      go_ret
      exact ⟨by rw [← HR.out]; rfl, HF2.out⟩

/-- Is a link of a web with so many kids right, of a process with so many flows? -/
def Bl.linkB (nk nf : Nat) (x : Int × Int × Int) : Bool := Bl.endB nk x.1 && Bl.endB nk x.2.1 && !(x.1 == x.2.1) && decide (0 ≤ x.2.2) && decide (x.2.2 < nf)
/-- How many links lead in, or out. -/
def Bl.inN (ls : List (Int × Int × Int)) : Nat := (ls.filter fun x => x.1 == -1).length
def Bl.outN (ls : List (Int × Int × Int)) : Nat := (ls.filter fun x => x.2.1 == -1).length
def Bl.linkedB (nk nf : Nat) (ls : List (Int × Int × Int)) : Bool := decide (ls.length ≤ 40) && ls.all (Bl.linkB nk nf) && decide (Bl.inN ls = 1) && decide (Bl.outN ls = 1)
theorem Bl.inN_snoc (l : List (Int × Int × Int)) (x : Int × Int × Int) : Bl.inN (l ++ [x]) = Bl.inN l + if x.1 == -1 then 1 else 0 := by
  unfold Bl.inN
  rw [List.filter_append, List.length_append, List.filter_cons]
  split <;> simp
theorem Bl.outN_snoc (l : List (Int × Int × Int)) (x : Int × Int × Int) : Bl.outN (l ++ [x]) = Bl.outN l + if x.2.1 == -1 then 1 else 0 := by
  unfold Bl.outN
  rw [List.filter_append, List.length_append, List.filter_cons]
  split <;> simp

set_option maxRecDepth 20000 in
set_option maxHeartbeats 8000000 in
theorem Tryz.blinked_any (k nd r : Int) (a : Option Addr) (nk c : Nat) (al : Option Addr) (cl : Nat) (ls : List (Int × Int × Int)) (an : Option Addr) (n cn : Nat) (af : Option Addr) (m cf B : Nat) (w : World) (hL : Bl.Lk w B (.slice al ls.length cl) ls) (hB : B ≤ w.heap.size) (_hk : nk ≤ 2147483647) (_hm : m ≤ 100) :
    Calls Tryz.prog 48 #[.agg #[.slice an n cn, .slice af m cf], .agg #[.int .i64 k, .int .i64 nd, .int .i64 r, .slice a nk c, .slice al ls.length cl]] w fun e w' => e = .returned (.bool (Bl.linkedB nk m ls)) ∧ Below w.heap.size w w' := by
  obtain ⟨nl, hnl⟩ : ∃ n, ls.length = n := ⟨_, rfl⟩
  rw [hnl] at hL ⊢
  obtain ⟨W0, hW0⟩ : ∃ z, (w.alloc (.cells #[.slice an n cn, .slice af m cf] 25)).alloc (.cells #[.int .i64 k, .int .i64 nd, .int .i64 r, .slice a nk c, .slice al nl cl] 29) = z := ⟨_, rfl⟩
  have A0 : Below w.heap.size w W0 := by rw [← hW0]; exact ((Below.refl _ w).alloc (Nat.le_refl _) _).alloc (by simp) _
  have S0 : W0.heap.size = w.heap.size + 2 := by rw [← hW0]; simp
  have G1 : W0.heap[w.heap.size]? = some (.cells #[.slice an n cn, .slice af m cf] 25 (0, 0)) := by rw [← hW0, Below.heap_alloc _ _ _ (by simp)]; exact heap_alloc_new w _
  have G2 : W0.heap[w.heap.size + 1]? = some (.cells #[.int .i64 k, .int .i64 nd, .int .i64 r, .slice a nk c, .slice al nl cl] 29 (0, 0)) := by
    rw [← hW0]
    have := heap_alloc_new (w.alloc (.cells #[.slice an n cn, .slice af m cf] 25)) (.cells #[.int .i64 k, .int .i64 nd, .int .i64 r, .slice a nk c, .slice al nl cl] 29)
    simpa using this
  have CF : Hid (∀ W, Below W0.heap.size W0 W → W.cell? ⟨w.heap.size, 1, none⟩ = some (.slice af m cf) ∧ (W.cell? ⟨w.heap.size + 1, 0, none⟩ = some (.int .i64 k) ∧ W.cell? ⟨w.heap.size + 1, 1, none⟩ = some (.int .i64 nd) ∧ W.cell? ⟨w.heap.size + 1, 2, none⟩ = some (.int .i64 r) ∧ W.cell? ⟨w.heap.size + 1, 3, none⟩ = some (.slice a nk c) ∧ W.cell? ⟨w.heap.size + 1, 4, none⟩ = some (.slice al nl cl)) ∧ Below w.heap.size w W) := fun W hb => by
    have e1 := (hb.block _ (by omega)).trans G1
    have e2 := (hb.block _ (by omega)).trans G2
    exact ⟨by simp [World.cell?, e1], ⟨by simp [World.cell?, e2], by simp [World.cell?, e2], by simp [World.cell?, e2], by simp [World.cell?, e2], by simp [World.cell?, e2]⟩, A0.trans (hb.mono (by omega))⟩
  have C1 : Hid (∀ (i : Int) (W W1 : World), Below W0.heap.size W0 W1 → Below W1.heap.size W1 W → Calls Tryz.prog 65 #[.agg #[.int .i64 k, .int .i64 nd, .int .i64 r, .slice a nk c, .slice al nl cl], .int .i64 i] W fun e w' => e = .returned (.bool (Bl.endB nk i)) ∧ Hid (Below W0.heap.size W0 w' ∧ Below W1.heap.size W1 w')) := fun i W W1 hb hb1 =>
    (Tryz.isEnd_any i k nd r a nk c al nl cl W).mono fun _ _ q => ⟨q.1, hb.trans ((hb1.trans (q.2.mono hb1.size)).mono hb.size), hb1.trans (q.2.mono hb1.size)⟩
  obtain ⟨R, hR⟩ : ∃ q, Bl.linkedB nk m ls = q := ⟨_, rfl⟩
  rw [hR]
  have HR : Hid (Bl.linkedB nk m ls = R) := hR
  have HL : Hid (Bl.Lk w B (.slice al nl cl) ls ∧ ls.length = nl ∧ B ≤ w.heap.size) := ⟨hL, hnl, hB⟩
  have HW0 : Hid _ := hW0
  have BR : Hid (Below W0.heap.size W0 W0) := Below.refl _ _
  clear hL hnl hB hW0 A0 S0 G1 G2 hR
  obtain ⟨x1, ⟨y0, y1, y2, y3, y4⟩, HF⟩ := CF.out W0 BR.out
  have HF0 : Hid (Below w.heap.size w W0) := HF
  clear HF
  by_cases h40 : 40 < nl
  · have e0 : decide ((40 : Int) < nl) = true := decide_eq_true (by omega)
    have HX : Hid (R = false) := by show _ = _; rw [← HR.out, Bl.linkedB, decide_eq_false (by have := HL.out.2.1; omega)]; rfl
    go_enter Tryz.func48, Tryz.ntmps48
    go_upto_region 1 with fail
    rw [HW0.out]
    go_wp2
    go_ret
    exact ⟨by rw [HX.out]; rfl, HF0.out⟩
  have e0 : decide ((40 : Int) < nl) = false := decide_eq_false (by omega)
  have hnb : nl ≤ 40 := by omega
  go_enter Tryz.func48, Tryz.ntmps48
  go_upto_region 1 with fail
  rw [HW0.out]
  clear HW0 h40
  go_wp2
  go_loopg [5, 6, 8, 16] nl (fun gk s5 s6 _ s16 wr => ∃ j i o : Nat, gk + j = nl ∧ s16 = .int .i64 j ∧ s5 = .int .i64 i ∧ s6 = .int .i64 o ∧ i ≤ 40 ∧ o ≤ 40 ∧ Hid (Below W0.heap.size W0 wr ∧ (ls.take j).all (Bl.linkB nk m) = true ∧ i = Bl.inN (ls.take j) ∧ o = Bl.outN (ls.take j)))
  case atStart => exact ⟨0, 0, 0, by omega, rfl, rfl, rfl, by omega, by omega, BR.out, by simp, by simp [Bl.inN], by simp [Bl.outN]⟩
  case round =>
    obtain ⟨j, i, o, hj, rfl, rfl, rfl, hi, ho, HJ⟩ := hrel
    clear x1 y0 y1 y2 y3 y4
    by_cases hjn : j < nl
    · have hd : decide ((j : Int) < nl) = true := decide_eq_true (by omega)
      have hjk : j < ls.length := by rw [HL.out.2.1]; exact hjn
      have hL := HL.out.1
      obtain ⟨a', c', hv, hl⟩ := hL
      obtain ⟨rfl, -, -⟩ := Value.slice.inj hv
      obtain ⟨q, off, rfl, hq, p0, p1, p2⟩ := hl j hjk
      obtain ⟨x, hx⟩ : ∃ x, ls[j] = x := ⟨_, rfl⟩
      obtain ⟨z0, z1, z2⟩ := x
      rw [hx] at p0 p1 p2
      have HBW := (CF.out wr HJ.out.1).2.2
      have hqs : q < w.heap.size := by have := HL.out.2.2; omega
      have hc0 : wr.cell? ⟨q, off + j * 3, none⟩ = some (.int .i64 z0) := by rw [HBW.cell (p := ⟨q, off + j * 3, none⟩) hqs]; exact p0
      have hc1 : wr.cell? ⟨q, off + j * 3 + 1, none⟩ = some (.int .i64 z1) := by rw [HBW.cell (p := ⟨q, off + j * 3 + 1, none⟩) hqs]; exact p1
      have hc2 : wr.cell? ⟨q, off + j * 3 + 2, none⟩ = some (.int .i64 z2) := by rw [HBW.cell (p := ⟨q, off + j * 3 + 2, none⟩) hqs]; exact p2
      have HX : Hid (ls[j] = (z0, z1, z2)) := hx
      obtain ⟨b6, hb6⟩ : ∃ z, wr.heap.size = z := ⟨_, rfl⟩
      have HK : Hid ((wr.alloc (.cells #[.int .i64 0, .int .i64 0, .int .i64 0] 75)).heap[wr.heap.size]? = some (.cells #[.int .i64 0, .int .i64 0, .int .i64 0] 75 (0, 0))) := heap_alloc_new wr _
      obtain ⟨V0, hV0⟩ : ∃ z, (wr.alloc (.cells #[.int .i64 0, .int .i64 0, .int .i64 0] 75)).setRow wr.heap.size #[.int .i64 z0, .int .i64 z1, .int .i64 z2] = z := ⟨_, rfl⟩
      have HV0 : Hid _ := hV0
      have GV : Hid (V0.heap[wr.heap.size]? = some (.cells #[.int .i64 z0, .int .i64 z1, .int .i64 z2] 75 (0, 0))) := by show _ = _; rw [← hV0]; exact setRow_heap _ _ _ _ _ _ HK.out
      have BV : Hid (Below W0.heap.size W0 V0) := by
        show Below _ _ _
        rw [← hV0]
        have h1 := HJ.out.1.alloc HJ.out.1.size (.cells #[.int .i64 0, .int .i64 0, .int .i64 0] 75)
        exact h1.trans ⟨rfl, rfl, rfl, by simp [World.setRow], fun k hk => setRow_other _ _ _ _ (by have := HJ.out.1.size; omega)⟩
      have CV : Hid (∀ W, Below V0.heap.size V0 W → W.cell? ⟨wr.heap.size, 0, none⟩ = some (.int .i64 z0) ∧ W.cell? ⟨wr.heap.size, 1, none⟩ = some (.int .i64 z1) ∧ W.cell? ⟨wr.heap.size, 2, none⟩ = some (.int .i64 z2)) := fun W hb => by
        have e1 := (hb.block _ (Array.getElem?_eq_some_iff.1 GV.out).1).trans GV.out
        exact ⟨by simp [World.cell?, e1], by simp [World.cell?, e1], by simp [World.cell?, e1]⟩
      have RV : Hid (Below V0.heap.size V0 V0) := Below.refl _ _
      have HBAD : Hid (Bl.linkB nk m (z0, z1, z2) = false → R = false) := fun h => by
        rw [← HR.out, Bl.linkedB]
        have : ls.all (Bl.linkB nk m) = false := by
          rw [List.all_eq_false]
          exact ⟨_, List.getElem_mem hjk, by rw [HX.out, h]; simp⟩
        rw [this]
        simp
      clear p0 p1 p2 hx hq hqs hl hv HBW hV0 hb6 b6
      go_upto_region 7 with (refine wpList_store_row rfl 75 _ _ rfl wr.heap.size _ rfl rfl 75 #[.int .i64 0, .int .i64 0, .int .i64 0] (by exact HK.out) (by kernel_rfl) rfl (by kernel_rfl) ?_)
      rw [HV0.out]
      clear HV0 HK GV hc0 hc1 hc2
      obtain ⟨x1, ⟨y0, y1, y2, y3, y4⟩, -⟩ := CF.out V0 BV.out
      obtain ⟨v0, v1, v2⟩ := CV.out V0 RV.out
      go_wp2_with fail
      refine Calls.mono (C1.out z0 V0 V0 BV.out RV.out) ?_
      rintro e W1 ⟨rfl, B1⟩
      clear x1 y0 y1 y2 y3 y4 v0 v1 v2
      obtain ⟨x1, ⟨y0, y1, y2, y3, y4⟩, HF⟩ := CF.out W1 B1.out.1
      obtain ⟨v0, v1, v2⟩ := CV.out W1 B1.out.2
      have HF1 : Hid (Below w.heap.size w W1) := HF
      clear HF
      cases h0 : Bl.endB nk z0 with
      | false =>
        have HZ : Hid (R = false) := HBAD.out (by rw [Bl.linkB, h0]; rfl)
        clear h0
        go_wp2
        go_ret
        exact ⟨by rw [HZ.out]; rfl, HF1.out⟩
      | true =>
        have H0 : Hid (Bl.endB nk z0 = true) := h0
        clear h0
        go_wp2_with fail
        refine Calls.mono (C1.out z1 W1 V0 BV.out B1.out.2) ?_
        rintro e W2 ⟨rfl, B2⟩
        clear x1 y0 y1 y2 y3 y4 v0 v1 v2
        obtain ⟨x1, ⟨y0, y1, y2, y3, y4⟩, HF⟩ := CF.out W2 B2.out.1
        obtain ⟨v0, v1, v2⟩ := CV.out W2 B2.out.2
        have HF2 : Hid (Below w.heap.size w W2) := HF
        clear HF
        cases h1 : Bl.endB nk z1 with
        | false =>
          have HZ : Hid (R = false) := HBAD.out (by rw [Bl.linkB, H0.out, h1]; rfl)
          clear h1
          go_wp2
          go_ret
          exact ⟨by rw [HZ.out]; rfl, HF2.out⟩
        | true =>
          have H1 : Hid (Bl.endB nk z1 = true) := h1
          clear h1
          by_cases hbad : z0 = z1 ∨ z2 < 0 ∨ (m : Int) ≤ z2
          · have HZ : Hid (R = false) := HBAD.out (by
              rw [Bl.linkB, H0.out, H1.out]
              simp only [Bool.true_and]
              rcases hbad with h | h | h
              · simp [h]
              · simp [show ¬ 0 ≤ z2 by omega]
              · simp [show ¬ z2 < m by omega])
            obtain f0 | ⟨f0, f1⟩ | ⟨f0, f1, f2⟩ : (z0 == z1) = true ∨ ((z0 == z1) = false ∧ decide (z2 < 0) = true) ∨ ((z0 == z1) = false ∧ decide (z2 < 0) = false ∧ decide ((m : Int) ≤ z2) = true) := by
              by_cases g0 : z0 = z1
              · exact .inl (by simpa using g0)
              · refine .inr ?_
                have g0' : (z0 == z1) = false := by simpa using g0
                rw [g0']
                simp
                omega
            all_goals
              clear hbad
              go_wp2
              go_ret
              exact ⟨by rw [HZ.out]; rfl, HF2.out⟩
          · have f0 : (z0 == z1) = false := by simp; intro h; exact hbad (.inl h)
            have f1 : decide (z2 < 0) = false := decide_eq_false (by omega)
            have f2 : decide ((m : Int) ≤ z2) = false := decide_eq_false (by omega)
            have HG : Hid (Bl.linkB nk m (z0, z1, z2) = true) := by
              show _ = _
              rw [Bl.linkB, H0.out, H1.out, f0, decide_eq_true (p := 0 ≤ z2) (by omega), decide_eq_true (p := z2 < m) (by omega)]
              rfl
            have HN : Hid (i + (if z0 == -1 then 1 else 0) = Bl.inN (ls.take (j + 1)) ∧ o + (if z1 == -1 then 1 else 0) = Bl.outN (ls.take (j + 1)) ∧ (ls.take (j + 1)).all (Bl.linkB nk m) = true) := by
              refine ⟨?_, ?_, ?_⟩
              · rw [Bl.take_snoc _ _ hjk, Bl.inN_snoc, HX.out, HJ.out.2.2.1]
              · rw [Bl.take_snoc _ _ hjk, Bl.outN_snoc, HX.out, HJ.out.2.2.2]
              · rw [Bl.take_snoc _ _ hjk, List.all_append, HJ.out.2.1, HX.out]
                simp [HG.out]
            have HI : Hid (Bl.inN (ls.take (j + 1)) ≤ 40 ∧ Bl.outN (ls.take (j + 1)) ≤ 40) := by
              have h1 := List.length_filter_le (fun x : Int × Int × Int => x.1 == -1) (ls.take (j + 1))
              have h2 := List.length_filter_le (fun x : Int × Int × Int => x.2.1 == -1) (ls.take (j + 1))
              have h3 := List.length_take_le' (j + 1) ls
              have h4 := HL.out.2.1
              exact ⟨by unfold Bl.inN; omega, by unfold Bl.outN; omega⟩
            clear hbad HBAD C1
            cases g0 : (z0 == -1) <;> cases g1 : (z1 == -1)
            all_goals
              have HG0 : Hid _ := g0
              have HG1 : Hid _ := g1
              go_wp2
              go_roundg (gk - 1)
              case measure => omega
              case rel =>
                have h1 := HN.out
                have h2 := HI.out
                rw [HG0.out, HG1.out] at h1
                simp only [if_true, Bool.false_eq_true, if_false, Nat.add_zero] at h1
                first
                | exact ⟨j + 1, i, o, by omega, by go_num, by go_num, by go_num, hi, ho, B2.out.1, h1.2.2, h1.1, h1.2.1⟩
                | exact ⟨j + 1, i + 1, o, by omega, by go_num, by go_num, by go_num, by omega, ho, B2.out.1, h1.2.2, h1.1, h1.2.1⟩
                | exact ⟨j + 1, i, o + 1, by omega, by go_num, by go_num, by go_num, hi, by omega, B2.out.1, h1.2.2, h1.1, h1.2.1⟩
                | exact ⟨j + 1, i + 1, o + 1, by omega, by go_num, by go_num, by go_num, by omega, by omega, B2.out.1, h1.2.2, h1.1, h1.2.1⟩
    · have hd : decide ((j : Int) < nl) = false := decide_eq_false (by omega)
      have hall : ls.take j = ls := List.take_of_length_le (by rw [HL.out.2.1]; omega)
      have hz := HJ.out
      rw [hall] at hz
      have HZ : Hid (R = (decide (i = 1) && decide (o = 1))) := by
        show _ = _
        rw [← HR.out, Bl.linkedB, hz.2.1, decide_eq_true (by have := HL.out.2.1; omega), ← hz.2.2.1, ← hz.2.2.2]
        simp
      have HF : Hid (Below w.heap.size w wr) := (CF.out wr hz.1).2.2
      clear hz HJ
      obtain ⟨f0, f1, hX⟩ | ⟨f0, f1, hX⟩ | ⟨f0, hX⟩ : (((i : Int) == 1) = true ∧ ((o : Int) == 1) = true ∧ (decide (i = 1) && decide (o = 1)) = true) ∨ (((i : Int) == 1) = true ∧ ((o : Int) == 1) = false ∧ (decide (i = 1) && decide (o = 1)) = false) ∨ (((i : Int) == 1) = false ∧ (decide (i = 1) && decide (o = 1)) = false) := by
        by_cases h1 : i = 1 <;> by_cases h2 : o = 1 <;> simp [h1, h2] <;> omega
      all_goals
        rw [hX] at HZ
        clear hX
        go_wp2
        go_ret
        exact ⟨by rw [HZ.out]; rfl, HF.out⟩

end Go.Proofs
