import Derived.Test.YtndfbgfpnjnmlaaGreatDoorRGmChoose
import Derived.Test.YtndfbgfpnjnmlaaGreatDoorRGmRight
namespace Go.Proofs
open Go.RowKit Go.Shelf
theorem Gm.ins_call {X : World} {b d : Nat} {af : Option Addr} {fs : List Fl} (hF : Nt.Fls X b d af fs) (hb : b ≤ X.heap.size) (hl : fs.length ≤ 100) (an : Option Addr) (n cn cf : Nat) (i : Int) (W : World) (hW : Below X.heap.size X W) :
  Calls Tryz.prog 56 #[.agg #[.slice an n cn, .slice af fs.length cf], .int .i64 i] W fun e w' => ∃ v, e = .returned v ∧ Hid (Below X.heap.size X w' ∧ Below W.heap.size W w' ∧ Gm.Ints w' v ((Nt.insL fs i).map fun x : Nat => (x : Int))) :=
 (Tryz.nIns_any i an n cn af cf d fs W ((hF.below (hW.mono hb)).wider (Nat.le_trans hb hW.size)) hl).mono fun _ _ ⟨v, hv, hown, hbb⟩ => ⟨v, hv, hW.trans (hbb.mono hW.size), hbb, Gm.ints_nums hown⟩
theorem Gm.outs_call {X : World} {b d : Nat} {af : Option Addr} {fs : List Fl} (hF : Nt.Fls X b d af fs) (hb : b ≤ X.heap.size) (hl : fs.length ≤ 100) (an : Option Addr) (n cn cf : Nat) (i : Int) (W : World) (hW : Below X.heap.size X W) :
  Calls Tryz.prog 30 #[.agg #[.slice an n cn, .slice af fs.length cf], .int .i64 i] W fun e w' => ∃ v, e = .returned v ∧ Hid (Below X.heap.size X w' ∧ Below W.heap.size W w' ∧ Gm.Ints w' v ((Nt.outsL fs i).map fun x : Nat => (x : Int))) :=
 (Tryz.nOuts_any i an n cn af cf d fs W ((hF.below (hW.mono hb)).wider (Nat.le_trans hb hW.size)) hl).mono fun _ _ ⟨v, hv, hown, hbb⟩ => ⟨v, hv, hW.trans (hbb.mono hW.size), hbb, Gm.ints_nums hown⟩
theorem Gm.catchS_length (ns : List Nd) (l : List Int) (nd ar : Int) (i : Nat) (a b : List Nat) : (Gm.catchS ns l nd ar i a b).length ≤ 1 := by
 unfold Gm.catchS
 cases Gm.pass l a b with
 | none => simp
 | some t =>
   simp only
   split
   ·simp
   ·split <;> simp
theorem Gm.goes_nil (want : Int) (p : List Mv × List Int) : Gm.goes want p [] = p := rfl
set_option maxRecDepth 20000 in
set_option maxHeartbeats 32000000 in
theorem Tryz.node_any (w0 : World) (B b : Nat) (an : Option Addr) (n cn : Nat) (af : Option Addr) (m cf : Nat) (l : List Int) (want : Int) (p : List Mv × List Int) (i : Nat) (X : World) (hG : Gm.G w0 B b an n cn af m cf l want p.1 p.2 X) (hl : p.1.length ≤ 4000) (hS : Gm.Small l) (hQ : ∀ k, k < 4 → 0 ≤ l.getD (44 + k) 0 ∧ l.getD (44 + k) 0 ≤ 3)
    (d : Nat) (ns : List Nd) (fs : List Fl) (hN : Nt.Nds w0 b d an ns) (hF : Nt.Fls w0 b d af fs) (hn : ns.length = n) (hm : fs.length = m) (hRt : Gm.Rt ns fs) (hi : i < ns.length) (hnz : ∀ x, x ∈ ns → x.t.size ≤ 2147483647) (hfz : ∀ x, x ∈ fs → x.c.size ≤ 2147483647) (hO : Tk.Ops w0) (hOb : 0 < b) :
    Calls Tryz.prog 41 #[.pointer (some ⟨b, 0, none⟩), .int .i64 i] X fun e' w' => e' = .returned (.tuple #[]) ∧ Gm.G w0 B b an n cn af m cf l want (Gm.goes want p (Gm.nodeS ns fs l i)).1 (Gm.goes want p (Gm.nodeS ns fs l i)).2 w' ∧ Gm.KeepI X w' := by
  obtain ⟨R, hR⟩ : ∃ R, Gm.goes want p (Gm.nodeS ns fs l i) = R := ⟨_, rfl⟩
  rw [hR]
  have hFX : Nt.Fls X b d af fs := Gm.fls_fr hF hG.lt hG.fr
  have hbX : b ≤ X.heap.size := by have h1 := hG.lt; have h2 := hG.le; have h3 := hG.fr.size; omega
  have hf40 := hRt.f40
  have hn24 := hRt.n24
  obtain ⟨v0, hA, _⟩ := hG.game
  have CI : Hid (∀ W, Below X.heap.size X W → Calls Tryz.prog 56 #[.agg #[.slice an n cn, .slice af m cf], .int .i64 i] W fun e w' => ∃ v, e = .returned v ∧ Hid (Below X.heap.size X w' ∧ Below W.heap.size W w' ∧ Gm.Ints w' v ((Nt.insL fs i).map fun x : Nat => (x : Int)))) := fun W hW => by
    have := Gm.ins_call hFX hbX (by omega) an n cn cf i W hW
    rw [hm] at this
    exact this
  have CO : Hid (∀ W, Below X.heap.size X W → Calls Tryz.prog 30 #[.agg #[.slice an n cn, .slice af m cf], .int .i64 i] W fun e w' => ∃ v, e = .returned v ∧ Hid (Below X.heap.size X w' ∧ Below W.heap.size W w' ∧ Gm.Ints w' v ((Nt.outsL fs i).map fun x : Nat => (x : Int)))) := fun W hW => by
    have := Gm.outs_call hFX hbX (by omega) an n cn cf i W hW
    rw [hm] at this
    exact this
  have CF : Hid (∀ V, Below X.heap.size X V → V.cell? ⟨b, 0, none⟩ = some (.slice an n cn) ∧ V.cell? ⟨b, 1, none⟩ = some (.slice af m cf)) := fun V hV => by
    rw [hV.cell (p := ⟨b, 0, none⟩) hA.lt, hV.cell (p := ⟨b, 1, none⟩) hA.lt]
    exact ⟨hA.net0, hA.net1⟩
  have BR : Hid (Below X.heap.size X X) := Below.refl _ _
  obtain ⟨L1, hL1⟩ : ∃ z, Nt.insL fs i = z := ⟨_, rfl⟩
  obtain ⟨L2, hL2⟩ : ∃ z, Nt.outsL fs i = z := ⟨_, rfl⟩
  rw [hL1] at CI
  rw [hL2] at CO
  obtain ⟨x, hx⟩ : ∃ z, ns[i] = z := ⟨_, rfl⟩
  obtain ⟨kd, hkd⟩ : ∃ z, x.kind = z := ⟨_, rfl⟩
  have HNS : Hid (Gm.goes want p (if kd = 3 then Gm.taskS l i x.a L1 L2 else if kd = 4 then Gm.assignS l i x.a x.t L1 L2 else if kd = 5 then (if 1 < L2.length then Gm.chooseS fs l i L1 L2 else Gm.mergeS l i L2 L1)
    else if kd = 6 then Gm.andS l i L1 L2 else if kd = 7 then Gm.eventS ns fs l i L1 L2 else if kd = 8 then Gm.catchS ns l i 0 i L1 L2 else if kd = 2 then Gm.endS l i L1 else []) = R) := by
    show _ = R
    rw [← hR]
    unfold Gm.nodeS
    rw [List.getElem?_eq_getElem hi]
    simp only [hL1, hL2, hx, hkd]
  have HH : Hid (Gm.G w0 B b an n cn af m cf l want p.1 p.2 X ∧ p.1.length ≤ 4000 ∧ Gm.Small l ∧ (∀ k, k < 4 → 0 ≤ l.getD (44 + k) 0 ∧ l.getD (44 + k) 0 ≤ 3) ∧ Nt.Nds w0 b d an ns ∧ Nt.Fls w0 b d af fs ∧ ns.length = n ∧ fs.length = m ∧ Gm.Rt ns fs ∧ Tk.Ops w0 ∧ 0 < b) := ⟨hG, hl, hS, hQ, hN, hF, hn, hm, hRt, hO, hOb⟩
  have HZ : Hid ((∀ x, x ∈ ns → x.t.size ≤ 2147483647) ∧ (∀ x, x ∈ fs → x.c.size ≤ 2147483647)) := ⟨hnz, hfz⟩
  have HL : Hid ((∀ f ∈ L1, f < 40) ∧ (∀ f ∈ L2, f < 40) ∧ L1.length ≤ 100 ∧ L2.length ≤ 100 ∧ (∀ f ∈ L2, f < fs.length) ∧ Nt.insL fs i = L1 ∧ Nt.outsL fs i = L2) := by
    subst hL1 hL2
    refine ⟨fun f hf => ?_, fun f hf => ?_, ?_, ?_, fun f hf => Gm.outs_lt hf, rfl, rfl⟩
    · have := Gm.ins_lt hf; omega
    · have := Gm.outs_lt hf; omega
    · have := Gm.ins_len fs (i : Int); omega
    · have := Gm.outs_len fs (i : Int); omega
  have HI : Hid (∃ h : i < ns.length, ns[i] = x ∧ x.kind = kd) := ⟨hi, hx, hkd⟩
  have HNC : Hid (∀ (W : World) (p' : List Mv × List Int), Gm.G w0 B b an n cn af m cf l want p'.1 p'.2 W → ∃ g off, an = some ⟨g, off, none⟩ ∧ W.cell? ⟨g, off + i * 5, none⟩ = some (.int .i64 kd) ∧ W.cell? ⟨b, 0, none⟩ = some (.slice an n cn) ∧ W.cell? ⟨b, 1, none⟩ = some (.slice af m cf)) := fun W p' h => by
    obtain ⟨g, off, u, hga, hgb, k0, -⟩ := Gm.nds_fr hN h.lt h.fr i hi
    obtain ⟨v, hA', _⟩ := h.game
    exact ⟨g, off, hga, by rw [← hkd, ← hx]; exact k0, hA'.net0, hA'.net1⟩
  have hin : (i : Int) < n := by omega
  have hi0 : (0 : Int) ≤ i := by omega
  clear hG hl hS hQ hN hF hn hm hRt hi hnz hfz hO hOb hR hFX hbX hf40 hA hL1 hL2 hkd hx hn24
  go_enter Tryz.func41, Tryz.ntmps41
  go_upto_region 0 with fail
  go_cut [4, 5] (fun s4 s5 wx => ∃ (v1 v2 : Value), s4 = v1 ∧ s5 = v2 ∧ Hid (Gm.Ints wx v1 (L1.map fun x : Nat => (x : Int)) ∧ Gm.Ints wx v2 (L2.map fun x : Nat => (x : Int)) ∧ Below X.heap.size X wx))
  case first =>
    clear HNS HH HZ HL HI HNC
    go_region_held3 (fun V => V.cell? ⟨b, 0, none⟩ = some (.slice an n cn) ∧ V.cell? ⟨b, 1, none⟩ = some (.slice af m cf))
      (first | exact CF.out _ H4.out.1 | exact CF.out _ H3.out.1 | exact CF.out _ BR.out.drew | exact CF.out _ BR.out)
      (first
      | (go_simp; go_at_call 56; refine Calls.mono (CI.out _ ?_) ?_; (first | exact H4.out.1 | exact H4.out.1.drew | exact Tk.below_drewN H4.out.1 _ | exact BR.out | exact BR.out.drew | exact Tk.below_drewN BR.out _); rintro e W3 ⟨v3, rfl, H3⟩)
      | (go_simp; go_at_call 30; refine Calls.mono (CO.out _ ?_) ?_; (first | exact H3.out.1 | exact H3.out.1.drew | exact Tk.below_drewN H3.out.1 _ | exact BR.out | exact BR.out.drew | exact Tk.below_drewN BR.out _); rintro e W4 ⟨v4, rfl, H4⟩))
    all_goals
      go_wp2_with fail
      go_meet
      refine ⟨v3, v4, rfl, rfl, ?_, ?_, ?_⟩
      · first | exact H3.out.2.2.below H4.out.2.1 | exact H3.out.2.2
      · first | exact H4.out.2.2.below H3.out.2.1 | exact H4.out.2.2
      · first | exact H4.out.1 | exact H3.out.1
  case rest =>
  rename World => wc
  obtain ⟨v1, v2, rfl, rfl, HC⟩ := hcut
  obtain ⟨a1, c1, rfl, -⟩ := id HC.out.1
  obtain ⟨a2, c2, rfl, -⟩ := id HC.out.2.1
  rw [List.length_map] at HC
  rw [List.length_map] at HC
  rw [List.length_map, List.length_map]
  have HG : Hid (Gm.G w0 B b an n cn af m cf l want p.1 p.2 wc) := HH.out.1.below HC.out.2.2
  have HK : Hid (Gm.KeepI X wc) := Gm.KeepI.below HC.out.2.2
  obtain ⟨n1, hn1⟩ : ∃ z, L1.length = z := ⟨_, rfl⟩
  obtain ⟨n2, hn2⟩ : ∃ z, L2.length = z := ⟨_, rfl⟩
  rw [hn1, hn2] at HC
  rw [hn1, hn2]
  have HN12 : Hid (L1.length = n1 ∧ L2.length = n2) := ⟨hn1, hn2⟩
  obtain ⟨g, off, rfl, q0, q1, q2⟩ := HNC.out wc p HG.out
  clear CI CO CF BR HNC hn1 hn2
  have hu := Tryz.underlying29
  have HI49 : Hid (∀ t : List Int, t.length = 49 → (Tryz.prog.info? 29).map (·.size) = some (Gm.ints t).toArray.size ∧ (#[.int .i64 0, .int .i64 0, .int .i64 0, .int .i64 0, .int .i64 0, .int .i64 0, .int .i64 0, .int .i64 0, .int .i64 0, .int .i64 0, .int .i64 0, .int .i64 0, .int .i64 0, .int .i64 0, .int .i64 0, .int .i64 0, .int .i64 0, .int .i64 0, .int .i64 0, .int .i64 0, .int .i64 0, .int .i64 0, .int .i64 0, .int .i64 0, .int .i64 0, .int .i64 0, .int .i64 0, .int .i64 0, .int .i64 0, .int .i64 0, .int .i64 0, .int .i64 0, .int .i64 0, .int .i64 0, .int .i64 0, .int .i64 0, .int .i64 0, .int .i64 0, .int .i64 0, .int .i64 0, .int .i64 0, .int .i64 0, .int .i64 0, .int .i64 0, .int .i64 0, .int .i64 0, .int .i64 0, .int .i64 0, .int .i64 0] : Array Value).size = (Gm.ints t).toArray.size ∧ (Gm.ints t).toArray.all (·.oneCell') = true) := fun t ht => by
    have h : (Gm.ints t).toArray.size = 49 := by simpa [Gm.ints_length] using ht
    refine ⟨by rw [h]; kernel_rfl, by rw [h]; rfl, all_oneCell_toArray (Gm.ints_one t)⟩
  by_cases h3 : kd = 3
  · have e3 : (kd == 3) = true := by simpa using h3
    obtain ⟨y, hy, hy4⟩ : ∃ y : Nat, x.a = (y : Int) ∧ y < 4 := by
      obtain ⟨hi, hx, hk⟩ := HI.out
      have := HH.out.2.2.2.2.2.2.2.2.1.var hi (by rw [hx, hk]; exact .inl h3)
      rw [hx] at this
      exact this
    obtain ⟨hi, hx, hk⟩ := HI.out
    have HCT : Hid _ := Tryz.task_any w0 B b (some ⟨g, off, none⟩) n cn af m cf l want p i L1 L2 (.slice a1 n1 c1) (.slice a2 n2 c2) wc HG.out (by have := HH.out.2.1; omega) HC.out.1 HC.out.2.1 HL.out.1 HL.out.2.1 HL.out.2.2.1 HL.out.2.2.2.1 HH.out.2.2.1 d ns HH.out.2.2.2.2.1 HH.out.2.2.2.2.2.2.1 (by have h1 := HH.out.2.2.2.2.2.2.1; have h2 := HH.out.2.2.2.2.2.2.2.2.1.n24; omega) hi y (by rw [hx]; exact hy) hy4
    have HE : Hid (Gm.goes want p (Gm.taskS l i y L1 L2) = R) := by
      have := HNS.out
      rw [if_pos h3, hy] at this
      exact this
    rw [HE.out] at HCT
    clear HNS HH HZ HL HI hy hy4 h3 HC HG hx hk hi
    go_wp2_with fail
    refine Calls.mono HCT.out ?_
    rintro e W4 ⟨rfl, g4, k4⟩
    have HN : Hid (Gm.G w0 B b (some ⟨g, off, none⟩) n cn af m cf l want R.1 R.2 W4 ∧ Gm.KeepI X W4) := ⟨g4, HK.out.trans k4⟩
    clear g4 k4 HCT
    go_wp2
    go_end0
    exact ⟨rfl, HN.out⟩
  have e3 : (kd == 3) = false := by simpa using h3
  by_cases h4 : kd = 4
  · have e4 : (kd == 4) = true := by simpa using h4
    obtain ⟨y, hy, hy4⟩ : ∃ y : Nat, x.a = (y : Int) ∧ y < 4 := by
      obtain ⟨hi, hx, hk⟩ := HI.out
      have := HH.out.2.2.2.2.2.2.2.2.1.var hi (by rw [hx, hk]; exact .inr h4)
      rw [hx] at this
      exact this
    obtain ⟨hi, hx, hk⟩ := HI.out
    have HCT : Hid _ := Tryz.assign_any w0 B b (some ⟨g, off, none⟩) n cn af m cf l want p i L1 L2 (.slice a1 n1 c1) (.slice a2 n2 c2) wc HG.out (by have := HH.out.2.1; omega) HC.out.1 HC.out.2.1 HL.out.1 HL.out.2.1 HL.out.2.2.1 HL.out.2.2.2.1 HH.out.2.2.1 d ns HH.out.2.2.2.2.1 HH.out.2.2.2.2.2.2.1 (by have h1 := HH.out.2.2.2.2.2.2.1; have h2 := HH.out.2.2.2.2.2.2.2.2.1.n24; omega) hi y (by rw [hx]; exact hy) hy4 (HZ.out.1 _ (List.getElem_mem hi)) HH.out.2.2.2.2.2.2.2.2.2.1 HH.out.2.2.2.2.2.2.2.2.2.2
    have HE : Hid (Gm.goes want p (Gm.assignS l i y ns[i].t L1 L2) = R) := by
      have := HNS.out
      rw [if_neg h3, if_pos h4, hy] at this
      rw [hx]; exact this
    rw [HE.out] at HCT
    clear HE
    clear HNS HH HZ HL HI hy hy4 h3 h4 HC HG hx hk hi
    go_wp2_with fail
    refine Calls.mono HCT.out ?_
    rintro e W4 ⟨rfl, g4, k4⟩
    have HN : Hid (Gm.G w0 B b (some ⟨g, off, none⟩) n cn af m cf l want R.1 R.2 W4 ∧ Gm.KeepI X W4) := ⟨g4, HK.out.trans k4⟩
    clear g4 k4 HCT
    go_wp2
    go_end0
    exact ⟨rfl, HN.out⟩
  have e4 : (kd == 4) = false := by simpa using h4
  by_cases h5 : kd = 5
  · have e5 : (kd == 5) = true := by simpa using h5
    by_cases hb : 1 < n2
    · have eb : decide ((1 : Int) < n2) = true := decide_eq_true (by omega)
      have HCT : Hid _ := Tryz.choose_any w0 B b (some ⟨g, off, none⟩) n cn af m cf l want p i L1 L2 (.slice a1 n1 c1) (.slice a2 n2 c2) wc HG.out (by have := HH.out.2.1; omega) HC.out.1 HC.out.2.1 HL.out.1 HL.out.2.2.1 HL.out.2.2.2.1 HH.out.2.2.1 d fs HH.out.2.2.2.2.2.1 HH.out.2.2.2.2.2.2.2.1 (by have h1 := HH.out.2.2.2.2.2.2.2.1; have h2 := HH.out.2.2.2.2.2.2.2.2.1.f40; omega) HL.out.2.2.2.2.1 HZ.out.2 HH.out.2.2.2.2.2.2.2.2.2.1 HH.out.2.2.2.2.2.2.2.2.2.2
      have HE : Hid (Gm.goes want p (Gm.chooseS fs l i L1 L2) = R) := by
        have := HNS.out
        rw [if_neg h3, if_neg h4, if_pos h5, if_pos (by rw [HN12.out.2]; exact hb)] at this
        exact this
      rw [HE.out] at HCT
      clear HNS HH HZ HL HI h3 h4 h5 HC HG
      go_wp2_with fail
      refine Calls.mono HCT.out ?_
      rintro e W4 ⟨rfl, g4, k4⟩
      have HN : Hid (Gm.G w0 B b (some ⟨g, off, none⟩) n cn af m cf l want R.1 R.2 W4 ∧ Gm.KeepI X W4) := ⟨g4, HK.out.trans k4⟩
      clear g4 k4 HCT
      go_wp2
      go_end0
      exact ⟨rfl, HN.out⟩
    · have eb : decide ((1 : Int) < n2) = false := decide_eq_false (by omega)
      have HCT : Hid _ := Tryz.merge_any w0 B b (some ⟨g, off, none⟩) n cn af m cf l want p i L1 L2 (.slice a1 n1 c1) (.slice a2 n2 c2) wc HG.out (by have := HH.out.2.1; omega) HC.out.1 HC.out.2.1 HL.out.1 HL.out.2.1 HL.out.2.2.1 HL.out.2.2.2.1 HH.out.2.2.1
      have HE : Hid (Gm.goes want p (Gm.mergeS l i L2 L1) = R) := by
        have := HNS.out
        rw [if_neg h3, if_neg h4, if_pos h5, if_neg (by rw [HN12.out.2]; exact hb)] at this
        exact this
      rw [HE.out] at HCT
      clear HNS HH HZ HL HI h3 h4 h5 HC HG
      go_wp2_with fail
      refine Calls.mono HCT.out ?_
      rintro e W4 ⟨rfl, g4, k4⟩
      have HN : Hid (Gm.G w0 B b (some ⟨g, off, none⟩) n cn af m cf l want R.1 R.2 W4 ∧ Gm.KeepI X W4) := ⟨g4, HK.out.trans k4⟩
      clear g4 k4 HCT
      go_wp2
      go_end0
      exact ⟨rfl, HN.out⟩
  have e5 : (kd == 5) = false := by simpa using h5
  by_cases h6 : kd = 6
  · have e6 : (kd == 6) = true := by simpa using h6
    have HR2 : Hid (Gm.goes want p (match Gm.pass l L1 L2 with | none => [] | some t => [((⟨i, 0, 0, 0, 0⟩ : Mv), t)]) = R) := by
      have := HNS.out
      rw [if_neg h3, if_neg h4, if_neg h5, if_pos h6] at this
      exact this
    have HPC : Hid _ := Gm.G.pass HG.out L1 L2 _ _ HC.out.1 HC.out.2.1 HL.out.1 HL.out.2.1 HL.out.2.2.1 HL.out.2.2.2.1 HH.out.2.2.1
    obtain ⟨o, ho⟩ : ∃ z, Gm.pass l L1 L2 = z := ⟨_, rfl⟩
    have HO : Hid (Gm.pass l L1 L2 = o ∧ l.length = 49 ∧ p.1.length ≤ 4000) := ⟨ho, HH.out.2.2.1.1, HH.out.2.1⟩
    rw [ho] at HPC
    clear HNS HH HZ HL HI h3 h4 h5 h6 HC ho
    cases o with
    | none =>
      obtain ⟨f1, f2, f3⟩ := HI49.out Gm.zeros (by kernel_rfl)
      go_wp2_with fail
      refine Calls.mono HPC.out ?_
      rintro e W2 ⟨rfl, b2⟩
      have N2a : (W2.alloc (.cells #[.int .i64 0, .int .i64 0, .int .i64 0, .int .i64 0, .int .i64 0, .int .i64 0, .int .i64 0, .int .i64 0, .int .i64 0, .int .i64 0, .int .i64 0, .int .i64 0, .int .i64 0, .int .i64 0, .int .i64 0, .int .i64 0, .int .i64 0, .int .i64 0, .int .i64 0, .int .i64 0, .int .i64 0, .int .i64 0, .int .i64 0, .int .i64 0, .int .i64 0, .int .i64 0, .int .i64 0, .int .i64 0, .int .i64 0, .int .i64 0, .int .i64 0, .int .i64 0, .int .i64 0, .int .i64 0, .int .i64 0, .int .i64 0, .int .i64 0, .int .i64 0, .int .i64 0, .int .i64 0, .int .i64 0, .int .i64 0, .int .i64 0, .int .i64 0, .int .i64 0, .int .i64 0, .int .i64 0, .int .i64 0, .int .i64 0] 29)).heap[W2.heap.size]? = some (.cells #[.int .i64 0, .int .i64 0, .int .i64 0, .int .i64 0, .int .i64 0, .int .i64 0, .int .i64 0, .int .i64 0, .int .i64 0, .int .i64 0, .int .i64 0, .int .i64 0, .int .i64 0, .int .i64 0, .int .i64 0, .int .i64 0, .int .i64 0, .int .i64 0, .int .i64 0, .int .i64 0, .int .i64 0, .int .i64 0, .int .i64 0, .int .i64 0, .int .i64 0, .int .i64 0, .int .i64 0, .int .i64 0, .int .i64 0, .int .i64 0, .int .i64 0, .int .i64 0, .int .i64 0, .int .i64 0, .int .i64 0, .int .i64 0, .int .i64 0, .int .i64 0, .int .i64 0, .int .i64 0, .int .i64 0, .int .i64 0, .int .i64 0, .int .i64 0, .int .i64 0, .int .i64 0, .int .i64 0, .int .i64 0, .int .i64 0] 29 (0, 0)) := heap_alloc_new W2 _
      obtain ⟨W3, hW3⟩ : ∃ z, (W2.alloc (.cells #[.int .i64 0, .int .i64 0, .int .i64 0, .int .i64 0, .int .i64 0, .int .i64 0, .int .i64 0, .int .i64 0, .int .i64 0, .int .i64 0, .int .i64 0, .int .i64 0, .int .i64 0, .int .i64 0, .int .i64 0, .int .i64 0, .int .i64 0, .int .i64 0, .int .i64 0, .int .i64 0, .int .i64 0, .int .i64 0, .int .i64 0, .int .i64 0, .int .i64 0, .int .i64 0, .int .i64 0, .int .i64 0, .int .i64 0, .int .i64 0, .int .i64 0, .int .i64 0, .int .i64 0, .int .i64 0, .int .i64 0, .int .i64 0, .int .i64 0, .int .i64 0, .int .i64 0, .int .i64 0, .int .i64 0, .int .i64 0, .int .i64 0, .int .i64 0, .int .i64 0, .int .i64 0, .int .i64 0, .int .i64 0, .int .i64 0] 29)).setRow W2.heap.size (Gm.ints Gm.zeros).toArray = z := ⟨_, rfl⟩
      have B3 : Below wc.heap.size wc W3 := by rw [← hW3]; exact Tk.below_row (b2.alloc b2.size _) b2.size _
      have HN : Hid (Gm.G w0 B b (some ⟨g, off, none⟩) n cn af m cf l want R.1 R.2 W3 ∧ Gm.KeepI X W3) := by
        have h1 := HR2.out
        rw [HO.out.1] at h1
        have h2 : p = R := h1
        rw [← h2]
        exact ⟨HG.out.below B3, HK.out.trans (Gm.KeepI.below B3)⟩
      have HW3 : Hid _ := hW3
      clear b2 B3 hW3 HPC
      unfold Gm.passV
      go_upto_region 12 with (refine wpList_store_row rfl 29 _ _ rfl W2.heap.size (Gm.ints Gm.zeros).toArray rfl rfl 29 _ N2a f1 f2 f3 ?_; rw [HW3.out])
      go_wp2
      go_end0
      exact ⟨rfl, HN.out⟩
    | some t =>
      have htl : t.length = 49 := by rw [Gm.pass_length HO.out.1]; exact HO.out.2.1
      obtain ⟨f1, f2, f3⟩ := HI49.out t htl
      go_wp2_with fail
      refine Calls.mono HPC.out ?_
      rintro e W2 ⟨rfl, b2⟩
      have N2a : (W2.alloc (.cells #[.int .i64 0, .int .i64 0, .int .i64 0, .int .i64 0, .int .i64 0, .int .i64 0, .int .i64 0, .int .i64 0, .int .i64 0, .int .i64 0, .int .i64 0, .int .i64 0, .int .i64 0, .int .i64 0, .int .i64 0, .int .i64 0, .int .i64 0, .int .i64 0, .int .i64 0, .int .i64 0, .int .i64 0, .int .i64 0, .int .i64 0, .int .i64 0, .int .i64 0, .int .i64 0, .int .i64 0, .int .i64 0, .int .i64 0, .int .i64 0, .int .i64 0, .int .i64 0, .int .i64 0, .int .i64 0, .int .i64 0, .int .i64 0, .int .i64 0, .int .i64 0, .int .i64 0, .int .i64 0, .int .i64 0, .int .i64 0, .int .i64 0, .int .i64 0, .int .i64 0, .int .i64 0, .int .i64 0, .int .i64 0, .int .i64 0] 29)).heap[W2.heap.size]? = some (.cells #[.int .i64 0, .int .i64 0, .int .i64 0, .int .i64 0, .int .i64 0, .int .i64 0, .int .i64 0, .int .i64 0, .int .i64 0, .int .i64 0, .int .i64 0, .int .i64 0, .int .i64 0, .int .i64 0, .int .i64 0, .int .i64 0, .int .i64 0, .int .i64 0, .int .i64 0, .int .i64 0, .int .i64 0, .int .i64 0, .int .i64 0, .int .i64 0, .int .i64 0, .int .i64 0, .int .i64 0, .int .i64 0, .int .i64 0, .int .i64 0, .int .i64 0, .int .i64 0, .int .i64 0, .int .i64 0, .int .i64 0, .int .i64 0, .int .i64 0, .int .i64 0, .int .i64 0, .int .i64 0, .int .i64 0, .int .i64 0, .int .i64 0, .int .i64 0, .int .i64 0, .int .i64 0, .int .i64 0, .int .i64 0, .int .i64 0] 29 (0, 0)) := heap_alloc_new W2 _
      obtain ⟨W3, hW3⟩ : ∃ z, (W2.alloc (.cells #[.int .i64 0, .int .i64 0, .int .i64 0, .int .i64 0, .int .i64 0, .int .i64 0, .int .i64 0, .int .i64 0, .int .i64 0, .int .i64 0, .int .i64 0, .int .i64 0, .int .i64 0, .int .i64 0, .int .i64 0, .int .i64 0, .int .i64 0, .int .i64 0, .int .i64 0, .int .i64 0, .int .i64 0, .int .i64 0, .int .i64 0, .int .i64 0, .int .i64 0, .int .i64 0, .int .i64 0, .int .i64 0, .int .i64 0, .int .i64 0, .int .i64 0, .int .i64 0, .int .i64 0, .int .i64 0, .int .i64 0, .int .i64 0, .int .i64 0, .int .i64 0, .int .i64 0, .int .i64 0, .int .i64 0, .int .i64 0, .int .i64 0, .int .i64 0, .int .i64 0, .int .i64 0, .int .i64 0, .int .i64 0, .int .i64 0] 29)).setRow W2.heap.size (Gm.ints t).toArray = z := ⟨_, rfl⟩
      have N3 : W3.heap[W2.heap.size]? = some (.cells (Gm.ints t).toArray 29 (0, 0)) := by rw [← hW3]; exact setRow_heap _ _ _ _ _ _ N2a
      have B3 : Below wc.heap.size wc W3 := by rw [← hW3]; exact Tk.below_row (b2.alloc b2.size _) b2.size _
      have HK3 : Hid (Gm.KeepI X W3) := HK.out.trans (Gm.KeepI.below B3)
      have HA : Hid _ := Tryz.add_any w0 B b (some ⟨g, off, none⟩) n cn af m cf l want p.1 p.2 t ⟨i, 0, 0, 0, 0⟩ W3 (HG.out.below B3) htl (by have := HO.out.2.2; omega)
      have HW3 : Hid _ := hW3
      clear b2 B3 hW3 HPC
      unfold Gm.passV
      go_upto_region 12 with (refine wpList_store_row rfl 29 _ _ rfl W2.heap.size (Gm.ints t).toArray rfl rfl 29 _ N2a f1 f2 f3 ?_; rw [HW3.out])
      go_wp2_with (first
        | refine wpList_load_row rfl 29 _ rfl _ rfl 29 (Gm.ints t).toArray (0, 0) _ N3 hu rfl f1 ?_
        | fail)
      refine Calls.mono HA.out ?_
      rintro e W4 ⟨rfl, g4, k4⟩
      have HN : Hid (Gm.G w0 B b (some ⟨g, off, none⟩) n cn af m cf l want R.1 R.2 W4 ∧ Gm.KeepI X W4) := by
        have h1 := HR2.out
        rw [HO.out.1] at h1
        have h2 : Gm.goes want p [((⟨i, 0, 0, 0, 0⟩ : Mv), t)] = R := h1
        rw [← h2]
        exact ⟨g4, HK3.out.trans k4⟩
      clear g4 k4 HA
      go_wp2
      go_end0
      exact ⟨rfl, HN.out⟩
  have e6 : (kd == 6) = false := by simpa using h6
  by_cases h7 : kd = 7
  · have e7 : (kd == 7) = true := by simpa using h7
    have HR2 : Hid (Gm.goes want p (Gm.eventS ns fs l i L1 L2) = R) := by
      have := HNS.out
      rw [if_neg h3, if_neg h4, if_neg h5, if_neg h6, if_pos h7] at this
      exact this
    have HIA : Hid (∀ W, Gm.KeepI wc W → ∀ j, j < n2 → ∃ (g off f : Nat), L2[j]? = some f ∧ a2 = some ⟨g, off, none⟩ ∧ W.cell? ⟨g, off + j, none⟩ = some (.int .i64 f)) := fun W hk j hj => by
      obtain ⟨a', c', hs, ha⟩ := HC.out.2.1
      obtain ⟨rfl, hle, -⟩ := Value.slice.inj hs
      have hja : j < L2.length := by rw [HN12.out.2]; exact hj
      obtain ⟨g', off', cs, fr, h1, h2, h3⟩ := ha j (by rw [List.length_map]; exact hja)
      refine ⟨g', off', L2[j], List.getElem?_eq_getElem hja, h1, ?_⟩
      rw [World.cell?_of_block (w := wc) (a := ⟨g', off' + j, none⟩) (hk g' cs _ fr h2 (by decide) (by decide)), h3]
      simp
    obtain ⟨g2, off2, HF2⟩ : ∃ (g2 off2 : Nat), Hid (∀ (W : World) (p' : List Mv × List Int), Gm.G w0 B b (some ⟨g, off, none⟩) n cn af m cf l want p'.1 p'.2 W → ∀ f, f ∈ L2 → ∃ (t : Nat), af = some ⟨g2, off2, none⟩ ∧ f < m ∧ Gm.toOf fs f = t ∧ W.cell? ⟨g2, off2 + f * 6 + 1, none⟩ = some (.int .i64 t) ∧ W.cell? ⟨b, 0, none⟩ = some (.slice (some ⟨g, off, none⟩) n cn) ∧ W.cell? ⟨b, 1, none⟩ = some (.slice af m cf)) := by
      cases haf : af with
      | none =>
        refine ⟨0, 0, fun W p' h f hf => ?_⟩
        have hfl := HL.out.2.2.2.2.1 f hf
        obtain ⟨g', off', u', hga, -⟩ := HH.out.2.2.2.2.2.1 f hfl
        rw [haf] at hga
        cases hga
      | some ad =>
        obtain ⟨g2, off2, el⟩ := ad
        refine ⟨g2, off2, fun W p' h f hf => ?_⟩
        have hfl := HL.out.2.2.2.2.1 f hf
        rw [← haf] at h
        obtain ⟨g', off', u', hga, hgb, k0, k1, -⟩ := Gm.fls_fr HH.out.2.2.2.2.2.1 h.lt h.fr f hfl
        rw [haf] at hga
        simp only [Option.some.injEq, Addr.mk.injEq] at hga
        obtain ⟨rfl, rfl, rfl⟩ := hga
        obtain ⟨v, hA', _⟩ := h.game
        have ht := (HH.out.2.2.2.2.2.2.2.2.1.toL hfl).2
        rw [ht] at k1
        exact ⟨_, rfl, by rw [← HH.out.2.2.2.2.2.2.2.1]; exact hfl, rfl, k1, hA'.net0, by rw [← haf]; exact hA'.net1⟩
    have HCO : Hid (∀ (W : World) (p' : List Mv × List Int), Gm.G w0 B b (some ⟨g, off, none⟩) n cn af m cf l want p'.1 p'.2 W → ∀ t : Nat, Calls Tryz.prog 30 #[.agg #[.slice (some ⟨g, off, none⟩) n cn, .slice af m cf], .int .i64 t] W fun e w' => ∃ v, e = .returned v ∧ Hid (Below W.heap.size W w' ∧ Below W.heap.size W w' ∧ Gm.Ints w' v ((Nt.outsL fs t).map fun x : Nat => (x : Int)))) := fun W p' h t => by
      have hbW : b ≤ W.heap.size := by have h1 := h.lt; have h2 := h.le; have h3 := h.fr.size; omega
      have := Gm.outs_call (Gm.fls_fr HH.out.2.2.2.2.2.1 h.lt h.fr) hbW (by have := HH.out.2.2.2.2.2.2.2.2.1.f40; omega) (some ⟨g, off, none⟩) n cn cf t W (Below.refl _ _)
      rw [HH.out.2.2.2.2.2.2.2.1] at this
      exact this
    have HCC : Hid (∀ (W : World) (p' : List Mv × List Int), Gm.G w0 B b (some ⟨g, off, none⟩) n cn af m cf l want p'.1 p'.2 W → p'.1.length ≤ 4200 → Gm.KeepI wc W → ∀ f, f ∈ L2 → ∀ t, Gm.toOf fs f = t → ∀ v, Gm.Ints W v ((Nt.outsL fs t).map fun x : Nat => (x : Int)) → Calls Tryz.prog 63 #[.pointer (some ⟨b, 0, none⟩), .agg #[.int .i64 i, .int .i64 f, .int .i64 0, .int .i64 0, .int .i64 0], .int .i64 t, .slice a1 n1 c1, v] W fun e' w' => e' = .returned (.tuple #[]) ∧ Gm.G w0 B b (some ⟨g, off, none⟩) n cn af m cf l want (Gm.goes want p' (Gm.catchS ns l i f t L1 (Nt.outsL fs t))).1 (Gm.goes want p' (Gm.catchS ns l i f t L1 (Nt.outsL fs t))).2 w' ∧ Gm.KeepI W w') := fun W p' h hpl hk f hf t ht v hv => by
      obtain ⟨hi, hx, hkk⟩ := HI.out
      have hRt := HH.out.2.2.2.2.2.2.2.2.1
      have hf' : f ∈ Nt.outsL fs i := by rw [HL.out.2.2.2.2.2.2]; exact hf
      obtain ⟨htl, htk⟩ := hRt.event hi (by rw [hx, hkk]; exact h7) hf'
      subst ht
      obtain ⟨y, hy, hy4⟩ := hRt.msg htl htk
      have hf40 := hRt.f40
      have ho40 : ∀ q ∈ Nt.outsL fs (Gm.toOf fs f), q < 40 := fun q hq => by have := Gm.outs_lt hq; omega
      exact Tryz.catch_any w0 B b (some ⟨g, off, none⟩) n cn af m cf l want p' i f (Gm.toOf fs f) L1 (Nt.outsL fs (Gm.toOf fs f)) (.slice a1 n1 c1) v W h (by omega) (HC.out.1.keepI hk) hv HL.out.1 ho40 HL.out.2.2.1 (by have := Gm.outs_len fs ((Gm.toOf fs f : Nat) : Int); omega) HH.out.2.2.1 d ns HH.out.2.2.2.2.1 HH.out.2.2.2.2.2.2.1 (by have h1 := HH.out.2.2.2.2.2.2.1; have h2 := hRt.n24; omega) htl y hy hy4 HH.out.2.2.2.1 (fun t ht k hk => Gm.pass_keep (by omega) HH.out.2.2.1.1 HL.out.1 ho40 ht)
    have HP4 : Hid (p.1.length ≤ 4000 ∧ L2.length = n2 ∧ n2 ≤ 100) := ⟨HH.out.2.1, HN12.out.2, by rw [← HN12.out.2]; exact HL.out.2.2.2.1⟩
    have HS0 : Hid (Gm.goes want p (Gm.eventS ns fs l i L1 L2) = R ∧ Gm.G w0 B b (some ⟨g, off, none⟩) n cn af m cf l want p.1 p.2 wc ∧ Gm.KeepI X wc) := ⟨HR2.out, HG.out, HK.out⟩
    have hn2b : n2 ≤ 100 := HP4.out.2.2
    clear HNS HH HZ HL HI h3 h4 h5 h6 h7 HC HG HR2 hu HI49 HN12
    go_wp2
    go_loopg [9, 10, 80] n2 (fun gk _ _ s80 wr => ∃ (j : Nat) (p' : List Mv × List Int), s80 = .int .i64 j ∧ gk + j = n2 ∧ Hid (Gm.goes want p' (Gm.eventS ns fs l i L1 (L2.drop j)) = R ∧ Gm.G w0 B b (some ⟨g, off, none⟩) n cn af m cf l want p'.1 p'.2 wr ∧ Gm.KeepI wc wr ∧ p'.1.length ≤ p.1.length + j))
    case atStart => exact ⟨0, p, rfl, by omega, HS0.out.1, HS0.out.2.1, Gm.KeepI.refl _, by omega⟩
    case round =>
      obtain ⟨j, p', rfl, hj, HJ⟩ := hrel
      clear HS0 q0 q1 q2
      by_cases hlt : j < n2
      · have hd : decide ((j : Int) < n2) = true := decide_eq_true (by omega)
        obtain ⟨g5, off5, f, haf, rfl, hcf⟩ := HIA.out wr HJ.out.2.2.1 j hlt
        have hfm : f ∈ L2 := List.mem_of_getElem? haf
        have hdr : L2.drop j = f :: L2.drop (j + 1) := by
          obtain ⟨h1, h2⟩ := List.getElem?_eq_some_iff.1 haf
          rw [← h2]; exact List.drop_eq_getElem_cons h1
        obtain ⟨t, rfl, hf4, ht, k1, k2, k3⟩ := HF2.out wr p' HJ.out.2.1 f hfm
        have HGO : Hid (Gm.goes want (Gm.goes want p' (Gm.catchS ns l i f t L1 (Nt.outsL fs t))) (Gm.eventS ns fs l i L1 (L2.drop (j + 1))) = R) := by
          have := HJ.out.1
          rw [hdr, Gm.eventS, ht, Gm.goes_append] at this
          exact this
        have HCO2 : Hid _ := HCO.out wr p' HJ.out.2.1 t
        have HFT : Hid (f ∈ L2 ∧ Gm.toOf fs f = t) := ⟨hfm, ht⟩
        have j1 : (j : Int) < n2 := by omega
        have j0 : (0 : Int) ≤ j := by omega
        have i1 : (f : Int) < m := by omega
        have i0 : (0 : Int) ≤ f := by omega
        clear hdr haf hfm ht HIA
        go_wp2_with fail
        refine Calls.mono HCO2.out ?_
        rintro e W4 ⟨v4, rfl, H4⟩
        have HG4 : Hid (Gm.G w0 B b (some ⟨g, off, none⟩) n cn (some ⟨g2, off2, none⟩) m cf l want p'.1 p'.2 W4) := HJ.out.2.1.below H4.out.1
        have HK4 : Hid (Gm.KeepI wc W4) := HJ.out.2.2.1.trans (Gm.KeepI.below H4.out.1)
        have HCT : Hid _ := HCC.out W4 p' HG4.out (by have h1 := HJ.out.2.2.2; have h2 := HP4.out; omega) HK4.out f HFT.out.1 t HFT.out.2 v4 H4.out.2.2
        clear k1 k2 k3 hcf HCO2
        go_wp2_with fail
        refine Calls.mono HCT.out ?_
        rintro e W5 ⟨rfl, g5, k5⟩
        have HN : Hid (Gm.goes want (Gm.goes want p' (Gm.catchS ns l i f t L1 (Nt.outsL fs t))) (Gm.eventS ns fs l i L1 (L2.drop (j + 1))) = R ∧ Gm.G w0 B b (some ⟨g, off, none⟩) n cn (some ⟨g2, off2, none⟩) m cf l want (Gm.goes want p' (Gm.catchS ns l i f t L1 (Nt.outsL fs t))).1 (Gm.goes want p' (Gm.catchS ns l i f t L1 (Nt.outsL fs t))).2 W5 ∧ Gm.KeepI wc W5 ∧ (Gm.goes want p' (Gm.catchS ns l i f t L1 (Nt.outsL fs t))).1.length ≤ p.1.length + (j + 1)) := by
          refine ⟨HGO.out, g5, HK4.out.trans k5, ?_⟩
          rw [Gm.goes_length]
          have h1 := HJ.out.2.2.2
          have h2 := Gm.catchS_length ns l i f t L1 (Nt.outsL fs t)
          omega
        clear g5 k5 HCT HGO HJ HG4 HK4 H4
        go_wp2
        go_roundg (gk - 1)
        case measure => omega
        case rel => exact ⟨j + 1, Gm.goes want p' (Gm.catchS ns l i f t L1 (Nt.outsL fs t)), by go_num, by omega, HN.out⟩
      · obtain rfl : j = n2 := by omega
        have hd : decide ((j : Int) < j) = false := decide_eq_false (by omega)
        have HE : Hid (p' = R) := by
          have h1 := HJ.out.1
          rw [List.drop_eq_nil_of_le (by rw [HP4.out.2.1]; exact Nat.le_refl _), Gm.eventS] at h1
          exact h1
        have HN : Hid (Gm.G w0 B b (some ⟨g, off, none⟩) n cn af m cf l want R.1 R.2 wr ∧ Gm.KeepI X wr) := by rw [← HE.out]; exact ⟨HJ.out.2.1, HK.out.trans HJ.out.2.2.1⟩
        clear HJ
        go_wp2
        go_end0
        exact ⟨rfl, HN.out⟩
  have e7 : (kd == 7) = false := by simpa using h7
  by_cases h8 : kd = 8
  · have e8 : (kd == 8) = true := by simpa using h8
    obtain ⟨y, hy, hy4⟩ : ∃ y : Nat, x.a = (y : Int) ∧ y ≤ 4 := by
      obtain ⟨hi, hx, hk⟩ := HI.out
      have := HH.out.2.2.2.2.2.2.2.2.1.msg hi (by rw [hx, hk]; exact h8)
      rw [hx] at this
      exact this
    obtain ⟨hi, hx, hk⟩ := HI.out
    have HCT : Hid _ := Tryz.catch_any w0 B b (some ⟨g, off, none⟩) n cn af m cf l want p i 0 i L1 L2 (.slice a1 n1 c1) (.slice a2 n2 c2) wc HG.out (by have := HH.out.2.1; omega) HC.out.1 HC.out.2.1 HL.out.1 HL.out.2.1 HL.out.2.2.1 HL.out.2.2.2.1 HH.out.2.2.1 d ns HH.out.2.2.2.2.1 HH.out.2.2.2.2.2.2.1 (by have h1 := HH.out.2.2.2.2.2.2.1; have h2 := HH.out.2.2.2.2.2.2.2.2.1.n24; omega) hi y (by rw [hx]; exact hy) hy4 HH.out.2.2.2.1 (fun t ht k hk => Gm.pass_keep (by omega) HH.out.2.2.1.1 HL.out.1 HL.out.2.1 ht)
    have HE : Hid (Gm.goes want p (Gm.catchS ns l i 0 i L1 L2) = R) := by
      have := HNS.out
      rw [if_neg h3, if_neg h4, if_neg h5, if_neg h6, if_neg h7, if_pos h8] at this
      exact this
    rw [HE.out] at HCT
    clear HNS HH HZ HL HI h3 h4 h5 h6 h7 h8 HC HG hy hy4 hx hk hi
    go_wp2_with fail
    refine Calls.mono HCT.out ?_
    rintro e W4 ⟨rfl, g4, k4⟩
    have HN : Hid (Gm.G w0 B b (some ⟨g, off, none⟩) n cn af m cf l want R.1 R.2 W4 ∧ Gm.KeepI X W4) := ⟨g4, HK.out.trans k4⟩
    clear g4 k4 HCT
    go_wp2
    go_end0
    exact ⟨rfl, HN.out⟩
  have e8 : (kd == 8) = false := by simpa using h8
  by_cases h2 : kd = 2
  · have e2 : (kd == 2) = true := by simpa using h2
    have HCT : Hid _ := Tryz.end_any w0 B b (some ⟨g, off, none⟩) n cn af m cf l want p i L1 (.slice a1 n1 c1) wc HG.out (by have := HH.out.2.1; omega) HC.out.1 HL.out.1 HL.out.2.2.1 HH.out.2.2.1
    have HE : Hid (Gm.goes want p (Gm.endS l i L1) = R) := by
      have := HNS.out
      rw [if_neg h3, if_neg h4, if_neg h5, if_neg h6, if_neg h7, if_neg h8, if_pos h2] at this
      exact this
    rw [HE.out] at HCT
    clear HNS HH HZ HL HI h3 h4 h5 h6 h7 h8 h2 HC HG
    go_wp2_with fail
    refine Calls.mono HCT.out ?_
    rintro e W4 ⟨rfl, g4, k4⟩
    have HN : Hid (Gm.G w0 B b (some ⟨g, off, none⟩) n cn af m cf l want R.1 R.2 W4 ∧ Gm.KeepI X W4) := ⟨g4, HK.out.trans k4⟩
    clear g4 k4 HCT
    go_wp2
    go_end0
    exact ⟨rfl, HN.out⟩
  · have e2 : (kd == 2) = false := by simpa using h2
    have HN : Hid (Gm.G w0 B b (some ⟨g, off, none⟩) n cn af m cf l want R.1 R.2 wc ∧ Gm.KeepI X wc) := by
      have h1 := HNS.out
      rw [if_neg h3, if_neg h4, if_neg h5, if_neg h6, if_neg h7, if_neg h8, if_neg h2, Gm.goes_nil] at h1
      rw [← h1]
      exact ⟨HG.out, HK.out⟩
    clear HNS HH HZ HL HI h3 h4 h5 h6 h7 h8 h2 HC HG
    go_wp2
    go_end0
    exact ⟨rfl, HN.out⟩
end Go.Proofs
