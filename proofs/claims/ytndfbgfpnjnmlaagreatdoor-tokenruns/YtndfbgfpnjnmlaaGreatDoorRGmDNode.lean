import Derived.Test.YtndfbgfpnjnmlaaGreatDoorRGmDData
namespace Go.Proofs
open Go.RowKit Go.Shelf
namespace Gm
def endD (l : List Int) (i : Nat) (a : List Nat) : List (Mv × List Int) := if sumW (l.take 40) = 1 then more ⟨i, 0, 7, 0, 0⟩ (pass (l.set 48 1) a []) else more ⟨i, 0, 0, 0, 0⟩ (pass l a [])
def eventD (ns : List Nd) (fs : List Fl) (l : List Int) (i : Nat) (a : List Nat) : List Nat → List (Mv × List Int)
 | [] => []
 | f :: r => catchD l i (f : Nat) (toOf fs f) ((ns[toOf fs f]?.map Nd.a).getD 0).toNat a (Nt.outsL fs (toOf fs f)) ++ eventD ns fs l i a r
def nodeD (ns : List Nd) (fs : List Fl) (l : List Int) (i : Nat) : List (Mv × List Int) :=
 match ns[i]? with
 | none => []
 | some x =>
   let a := Nt.insL fs i
   let b := Nt.outsL fs i
   if x.kind = 2 then endD l i a else if x.kind = 3 ∨ x.kind = 4 then dataD l i x.kind x.a.toNat x.t a b else if x.kind = 5 then xorD fs l i a b
   else if x.kind = 6 then more ⟨i, 0, 0, 0, 0⟩ (pass l a b) else if x.kind = 7 then eventD ns fs l i a b else if x.kind = 8 then catchD l i 0 i x.a.toNat a b else []
theorem built_step1 (p1 p2 : Int) : Tryz.prog.built 61 [(0, .int .i64 p1), (1, .int .i64 p2)] = some (stC ⟨p1, p2, 0, 0, 0⟩ zeros).toArray := by kernel_rfl
theorem built_step0 (p1 : Int) : Tryz.prog.built 61 [(0, .int .i64 p1)] = some (stC ⟨p1, 0, 0, 0, 0⟩ zeros).toArray := by kernel_rfl
theorem catchD_length (l : List Int) (nd ar : Int) (i x : Nat) (a c : List Nat) : (catchD l nd ar i x a c).length ≤ 1 := by
 unfold catchD
 split
 ·cases pass l a c <;> simp [more]
 ·split
  ·simp
  ·cases pass (l.set (44 + x) (l.getD (44 + x) 0 - 1)) a c <;> simp [more]
end Gm
set_option maxRecDepth 20000 in
set_option maxHeartbeats 32000000 in
theorem Tryz.rnode_any (w0 : World) (B b : Nat) (an : Option Addr) (n cn : Nat) (af : Option Addr) (m cf : Nat) (l : List Int) (ss : List (Mv × List Int)) (i : Nat) (X : World) (hG : Gm.D w0 B b an n cn af m cf l ss X) (hl : ss.length ≤ 4000) (hS : Gm.Small l) (hQ : ∀ k, k < 4 → 0 ≤ l.getD (44 + k) 0 ∧ l.getD (44 + k) 0 ≤ 3)
    (d : Nat) (ns : List Nd) (fs : List Fl) (hN : Nt.Nds w0 b d an ns) (hF : Nt.Fls w0 b d af fs) (hn : ns.length = n) (hm : fs.length = m) (hRt : Gm.Rt ns fs) (hi : i < ns.length) (hnz : ∀ x, x ∈ ns → x.t.size ≤ 2147483647) (hfz : ∀ x, x ∈ fs → x.c.size ≤ 2147483647) :
    Calls Tryz.prog 28 #[.pointer (some ⟨b, 0, none⟩), .int .i64 i] X fun e' w' => e' = .returned (.tuple #[]) ∧ Gm.D w0 B b an n cn af m cf l (ss ++ Gm.nodeD ns fs l i) w' ∧ Gm.KeepD X w' := by
  obtain ⟨R, hR⟩ : ∃ R, ss ++ Gm.nodeD ns fs l i = R := ⟨_, rfl⟩
  rw [hR]
  have hFX : Nt.Fls X b d af fs := Gm.fls_fr hF hG.lt hG.fr
  have hbX : b ≤ X.heap.size := by have h1 := hG.lt; have h2 := hG.le; have h3 := hG.fr.size; omega
  have hf40 := hRt.f40
  have hn24 := hRt.n24
  obtain ⟨v0, hA, _⟩ := hG.game
  have hll := hA.ll
  have CI : Hid (∀ W, Below X.heap.size X W → Calls Tryz.prog 43 #[.agg #[.slice an n cn, .slice af m cf], .int .i64 i] W fun e w' => ∃ v, e = .returned v ∧ Hid (Below X.heap.size X w' ∧ Below W.heap.size W w' ∧ Gm.Ints w' v ((Nt.insL fs i).map fun x : Nat => (x : Int)))) := fun W hW => by
    have := Gm.rins_call hFX hbX (by omega) an n cn cf i W hW
    rw [hm] at this
    exact this
  have CO : Hid (∀ W, Below X.heap.size X W → Calls Tryz.prog 37 #[.agg #[.slice an n cn, .slice af m cf], .int .i64 i] W fun e w' => ∃ v, e = .returned v ∧ Hid (Below X.heap.size X w' ∧ Below W.heap.size W w' ∧ Gm.Ints w' v ((Nt.outsL fs i).map fun x : Nat => (x : Int)))) := fun W hW => by
    have := Gm.routs_call hFX hbX (by omega) an n cn cf i W hW
    rw [hm] at this
    exact this
  have CF : Hid (∀ V, Below X.heap.size X V → V.cell? ⟨b, 0, none⟩ = some (.slice an n cn) ∧ V.cell? ⟨b, 1, none⟩ = some (.slice af m cf)) := fun V hV => by
    rw [hV.cell (p := ⟨b, 0, none⟩) hA.lt, hV.cell (p := ⟨b, 1, none⟩) hA.lt]
    exact ⟨hA.net0, hA.net1⟩
  obtain ⟨L1, hL1⟩ : ∃ z, Nt.insL fs i = z := ⟨_, rfl⟩
  obtain ⟨L2, hL2⟩ : ∃ z, Nt.outsL fs i = z := ⟨_, rfl⟩
  rw [hL1] at CI
  rw [hL2] at CO
  obtain ⟨x, hx⟩ : ∃ z, ns[i] = z := ⟨_, rfl⟩
  obtain ⟨kd, hkd⟩ : ∃ z, x.kind = z := ⟨_, rfl⟩
  have HNS : Hid (ss ++ (if kd = 2 then Gm.endD l i L1 else if kd = 3 ∨ kd = 4 then Gm.dataD l i kd x.a.toNat x.t L1 L2 else if kd = 5 then Gm.xorD fs l i L1 L2
    else if kd = 6 then Gm.more ⟨i, 0, 0, 0, 0⟩ (Gm.pass l L1 L2) else if kd = 7 then Gm.eventD ns fs l i L1 L2 else if kd = 8 then Gm.catchD l i 0 i x.a.toNat L1 L2 else []) = R) := by
    show _ = R
    rw [← hR]
    unfold Gm.nodeD
    rw [List.getElem?_eq_getElem hi]
    simp only [hL1, hL2, hx, hkd]
  have HH : Hid (Gm.D w0 B b an n cn af m cf l ss X ∧ ss.length ≤ 4000 ∧ Gm.Small l ∧ (∀ k, k < 4 → 0 ≤ l.getD (44 + k) 0 ∧ l.getD (44 + k) 0 ≤ 3) ∧ Nt.Nds w0 b d an ns ∧ Nt.Fls w0 b d af fs ∧ ns.length = n ∧ fs.length = m ∧ Gm.Rt ns fs ∧ l.length = 49) := ⟨hG, hl, hS, hQ, hN, hF, hn, hm, hRt, hll⟩
  have HZ : Hid ((∀ x, x ∈ ns → x.t.size ≤ 2147483647) ∧ (∀ x, x ∈ fs → x.c.size ≤ 2147483647)) := ⟨hnz, hfz⟩
  have hjn : kd ≠ 1 → L1 ≠ [] := fun hk1 => by
    have hj := hRt.join hi
    rw [hx, hkd, hL1, hL2] at hj
    intro he
    rw [he] at hj
    simp only [List.length_nil] at hj
    unfold Nt.joinB at hj
    repeat' split at hj
    all_goals (simp at hj)
    all_goals (exact absurd ‹kd = 1› hk1)
  have HL : Hid ((∀ f ∈ L1, f < 40) ∧ (∀ f ∈ L2, f < 40) ∧ L1.length ≤ 100 ∧ L2.length ≤ 100 ∧ (∀ f ∈ L2, f < fs.length) ∧ Nt.insL fs i = L1 ∧ Nt.outsL fs i = L2 ∧ (kd ≠ 1 → L1 ≠ [])) := by
    subst hL1 hL2
    refine ⟨fun f hf => ?_, fun f hf => ?_, ?_, ?_, fun f hf => Gm.outs_lt hf, rfl, rfl, hjn⟩
    · have := Gm.ins_lt hf; omega
    · have := Gm.outs_lt hf; omega
    · have := Gm.ins_len fs (i : Int); omega
    · have := Gm.outs_len fs (i : Int); omega
  have HI : Hid (∃ h : i < ns.length, ns[i] = x ∧ x.kind = kd) := ⟨hi, hx, hkd⟩
  have HNC : Hid (∀ (W : World) (s' : List (Mv × List Int)), Gm.D w0 B b an n cn af m cf l s' W → ∃ g off, an = some ⟨g, off, none⟩ ∧ W.cell? ⟨g, off + i * 5, none⟩ = some (.int .i64 kd) ∧ W.cell? ⟨b, 0, none⟩ = some (.slice an n cn) ∧ W.cell? ⟨b, 1, none⟩ = some (.slice af m cf) ∧ W.rangeAt b 2 (Gm.ints l)) := fun W s' h => by
    obtain ⟨g, off, u, hga, hgb, k0, -⟩ := Gm.nds_fr hN h.lt h.fr i hi
    obtain ⟨v, hA', _⟩ := h.game
    exact ⟨g, off, hga, by rw [← hkd, ← hx]; exact k0, hA'.net0, hA'.net1, hA'.st⟩
  have hin : (i : Int) < n := by omega
  have hi0 : (0 : Int) ≤ i := by omega
  have a0 := hA.net0
  have a1 := hA.net1
  clear hG hl hS hQ hN hF hn hm hRt hi hnz hfz hR hFX hbX hf40 hA hL1 hL2 hkd hx hn24 hll hjn
  go_enter Tryz.func28, Tryz.ntmps28
  go_wp2_with fail
  refine Calls.mono (CI.out X (Below.refl _ _)) ?_
  rintro e W1 ⟨v1, rfl, H1⟩
  obtain ⟨b0, b1⟩ := CF.out W1 H1.out.1
  clear a0 a1
  go_wp2_with fail
  refine Calls.mono (CO.out W1 H1.out.1) ?_
  rintro e wc ⟨v2, rfl, H2⟩
  have HC : Hid (Gm.Ints wc v1 (L1.map fun x : Nat => (x : Int)) ∧ Gm.Ints wc v2 (L2.map fun x : Nat => (x : Int)) ∧ Below X.heap.size X wc) := ⟨H1.out.2.2.below H2.out.2.1, H2.out.2.2, H2.out.1⟩
  clear b0 b1 H1 H2 CI CO CF
  obtain ⟨a1, c1, rfl, -⟩ := id HC.out.1
  obtain ⟨a2, c2, rfl, -⟩ := id HC.out.2.1
  rw [List.length_map] at HC
  rw [List.length_map] at HC
  rw [List.length_map, List.length_map]
  have HG : Hid (Gm.D w0 B b an n cn af m cf l ss wc) := HH.out.1.below HC.out.2.2
  have HK : Hid (Gm.KeepD X wc) := Gm.KeepD.below HC.out.2.2
  obtain ⟨n1, hn1⟩ : ∃ z, L1.length = z := ⟨_, rfl⟩
  obtain ⟨n2, hn2⟩ : ∃ z, L2.length = z := ⟨_, rfl⟩
  rw [hn1, hn2] at HC
  rw [hn1, hn2]
  have HN12 : Hid (L1.length = n1 ∧ L2.length = n2) := ⟨hn1, hn2⟩
  obtain ⟨g, off, rfl, q0, q1, q2, hst⟩ := HNC.out wc ss HG.out
  clear hn1 hn2
  have hu := Tryz.underlying32
  have hi5 : (Tryz.prog.info? 32).map (·.size) = some (Gm.ints l).length := by rw [Gm.ints_length, HH.out.2.2.2.2.2.2.2.2.2]; show _ = _; kernel_rfl
  have HI54 : Hid (∀ mv (t : List Int), t.length = 49 → (Tryz.prog.info? 61).map (·.size) = some (Gm.stC mv t).toArray.size ∧ (#[.int .i64 0, .int .i64 0, .int .i64 0, .int .i64 0, .int .i64 0, .int .i64 0, .int .i64 0, .int .i64 0, .int .i64 0, .int .i64 0, .int .i64 0, .int .i64 0, .int .i64 0, .int .i64 0, .int .i64 0, .int .i64 0, .int .i64 0, .int .i64 0, .int .i64 0, .int .i64 0, .int .i64 0, .int .i64 0, .int .i64 0, .int .i64 0, .int .i64 0, .int .i64 0, .int .i64 0, .int .i64 0, .int .i64 0, .int .i64 0, .int .i64 0, .int .i64 0, .int .i64 0, .int .i64 0, .int .i64 0, .int .i64 0, .int .i64 0, .int .i64 0, .int .i64 0, .int .i64 0, .int .i64 0, .int .i64 0, .int .i64 0, .int .i64 0, .int .i64 0, .int .i64 0, .int .i64 0, .int .i64 0, .int .i64 0, .int .i64 0, .int .i64 0, .int .i64 0, .int .i64 0, .int .i64 0] : Array Value).size = (Gm.stC mv t).toArray.size ∧ (Gm.stC mv t).toArray.all (·.oneCell') = true) := fun mv t ht => by
    have h : (Gm.stC mv t).toArray.size = 54 := by simpa using Gm.stC_length mv t ht
    exact ⟨by rw [h]; kernel_rfl, by rw [h]; rfl, all_oneCell_toArray (Gm.stC_one mv t)⟩
  have hus := Tryz.underlying61
  have HCA : Hid (∀ (W : World), Below wc.heap.size wc W → ∀ (mv : Mv) (t : List Int), Gm.Small t → t.take 40 = l.take 40 → ∀ (c : List Nat) (rc : Value), Gm.Ints W rc (c.map fun x : Nat => (x : Int)) → (∀ f ∈ c, f < 40) → c.length ≤ 100 → Gm.passS ss mv t L1 c = R → Calls Tryz.prog 29 #[.pointer (some ⟨b, 0, none⟩), .agg (Gm.stC mv t).toArray, .slice a1 n1 c1, rc] W fun e' w' => e' = .returned (.tuple #[]) ∧ Hid (Gm.D w0 B b (some ⟨g, off, none⟩) n cn af m cf l R w' ∧ Gm.KeepD X w')) := fun W hW mv t hSt htk c rc hrc hc4 hcl he => by
    have h := Tryz.radd_any w0 B b (some ⟨g, off, none⟩) n cn af m cf l ss mv t L1 c (.slice a1 n1 c1) rc W (HG.out.below hW) (by have := HH.out.2.1; omega) (HC.out.1.below hW) hrc HL.out.1 hc4 HL.out.2.2.1 hcl hSt htk
    rw [he] at h
    exact h.mono fun _ _ q => ⟨q.1, q.2.1, (HK.out.trans (Gm.KeepD.below hW)).trans q.2.2⟩
  by_cases h2 : kd = 2
  · have e2 : (kd == 2) = true := by simpa using h2
    have HR2 : Hid (ss ++ Gm.endD l i L1 = R) := by
      have := HNS.out
      rw [if_pos h2] at this
      exact this
    have hbt := Gm.built_step2 i l HH.out.2.2.2.2.2.2.2.2.2
    obtain ⟨f1, f2, f3⟩ := HI54.out ⟨i, 0, 0, 0, 0⟩ l HH.out.2.2.2.2.2.2.2.2.2
    obtain ⟨W3, hW3⟩ : ∃ z, (wc.alloc (.cells #[.int .i64 0, .int .i64 0, .int .i64 0, .int .i64 0, .int .i64 0, .int .i64 0, .int .i64 0, .int .i64 0, .int .i64 0, .int .i64 0, .int .i64 0, .int .i64 0, .int .i64 0, .int .i64 0, .int .i64 0, .int .i64 0, .int .i64 0, .int .i64 0, .int .i64 0, .int .i64 0, .int .i64 0, .int .i64 0, .int .i64 0, .int .i64 0, .int .i64 0, .int .i64 0, .int .i64 0, .int .i64 0, .int .i64 0, .int .i64 0, .int .i64 0, .int .i64 0, .int .i64 0, .int .i64 0, .int .i64 0, .int .i64 0, .int .i64 0, .int .i64 0, .int .i64 0, .int .i64 0, .int .i64 0, .int .i64 0, .int .i64 0, .int .i64 0, .int .i64 0, .int .i64 0, .int .i64 0, .int .i64 0, .int .i64 0, .int .i64 0, .int .i64 0, .int .i64 0, .int .i64 0, .int .i64 0] 61)).setRow wc.heap.size (Gm.stC ⟨i, 0, 0, 0, 0⟩ l).toArray = z := ⟨_, rfl⟩
    have N3a : (wc.alloc (.cells #[.int .i64 0, .int .i64 0, .int .i64 0, .int .i64 0, .int .i64 0, .int .i64 0, .int .i64 0, .int .i64 0, .int .i64 0, .int .i64 0, .int .i64 0, .int .i64 0, .int .i64 0, .int .i64 0, .int .i64 0, .int .i64 0, .int .i64 0, .int .i64 0, .int .i64 0, .int .i64 0, .int .i64 0, .int .i64 0, .int .i64 0, .int .i64 0, .int .i64 0, .int .i64 0, .int .i64 0, .int .i64 0, .int .i64 0, .int .i64 0, .int .i64 0, .int .i64 0, .int .i64 0, .int .i64 0, .int .i64 0, .int .i64 0, .int .i64 0, .int .i64 0, .int .i64 0, .int .i64 0, .int .i64 0, .int .i64 0, .int .i64 0, .int .i64 0, .int .i64 0, .int .i64 0, .int .i64 0, .int .i64 0, .int .i64 0, .int .i64 0, .int .i64 0, .int .i64 0, .int .i64 0, .int .i64 0] 61)).heap[wc.heap.size]? = some (.cells #[.int .i64 0, .int .i64 0, .int .i64 0, .int .i64 0, .int .i64 0, .int .i64 0, .int .i64 0, .int .i64 0, .int .i64 0, .int .i64 0, .int .i64 0, .int .i64 0, .int .i64 0, .int .i64 0, .int .i64 0, .int .i64 0, .int .i64 0, .int .i64 0, .int .i64 0, .int .i64 0, .int .i64 0, .int .i64 0, .int .i64 0, .int .i64 0, .int .i64 0, .int .i64 0, .int .i64 0, .int .i64 0, .int .i64 0, .int .i64 0, .int .i64 0, .int .i64 0, .int .i64 0, .int .i64 0, .int .i64 0, .int .i64 0, .int .i64 0, .int .i64 0, .int .i64 0, .int .i64 0, .int .i64 0, .int .i64 0, .int .i64 0, .int .i64 0, .int .i64 0, .int .i64 0, .int .i64 0, .int .i64 0, .int .i64 0, .int .i64 0, .int .i64 0, .int .i64 0, .int .i64 0, .int .i64 0] 61 (0, 0)) := heap_alloc_new wc _
    have N3 : W3.heap[wc.heap.size]? = some (.cells (Gm.stC ⟨i, 0, 0, 0, 0⟩ l).toArray 61 (0, 0)) := by rw [← hW3]; exact setRow_heap _ _ _ _ _ _ N3a
    have B3 : Below wc.heap.size wc W3 := by rw [← hW3]; exact Tk.below_row ((Below.refl _ wc).alloc (Nat.le_refl _) _) (Nat.le_refl _) _
    have hst3 : W3.rangeAt b 2 (Gm.ints l) := by
      obtain ⟨v, hA', _⟩ := (HG.out.below B3).game
      exact hA'.st
    have HCTk : Hid (∀ W, Below wc.heap.size wc W → Calls Tryz.prog 15 #[.agg (Gm.ints l).toArray] W fun e w' => e = .returned (.int .i64 (Gm.sumW (l.take 40))) ∧ Hid (Below W.heap.size W w')) := fun W _ => by
      have h49 := HH.out.2.2.2.2.2.2.2.2.2
      exact Tryz.refTokens_any (Gm.ints l).toArray (l.take 40) W (fun j hj => by
        have hj' : j < 40 := by simp at hj; omega
        rw [List.getElem_take, Gm.ints_get (by omega), List.getD_eq_getElem?_getD, List.getElem?_eq_getElem (by omega)]; rfl) (by simp; omega)
    obtain ⟨sm, hsm⟩ : ∃ z, Gm.sumW (l.take 40) = z := ⟨_, rfl⟩
    rw [hsm] at HCTk
    have HSM : Hid (Gm.endD l i L1 = if sm = 1 then Gm.more ⟨i, 0, 7, 0, 0⟩ (Gm.pass (l.set 48 1) L1 []) else Gm.more ⟨i, 0, 0, 0, 0⟩ (Gm.pass l L1 [])) := by show _ = _; unfold Gm.endD; rw [hsm]
    have HX3 : Hid (Below wc.heap.size wc W3 ∧ W3.heap[wc.heap.size]? = some (.cells (Gm.stC ⟨i, 0, 0, 0, 0⟩ l).toArray 61 (0, 0))) := ⟨B3, N3⟩
    have HW3 : Hid _ := hW3
    clear hW3 B3 N3 HNS h2 hsm HZ HI HNC
    go_upto_region 5 with (first
      | refine wpList_load_mid rfl 32 _ rfl b 2 rfl (Gm.ints l) _ hst hu rfl hi5 ?_
      | refine wpList_buildTo rfl 61 _ rfl (some 37) rfl (Gm.stC ⟨i, 0, 0, 0, 0⟩ l).toArray (Eq.trans (congrArg (Tryz.prog.built 61) (by kernel_rfl)) hbt) ?_
      | (refine wpList_store_row rfl 61 _ _ rfl wc.heap.size (Gm.stC ⟨i, 0, 0, 0, 0⟩ l).toArray rfl rfl 61 _ N3a f1 f2 f3 ?_; rw [HW3.out]))
    clear HW3 N3a f2 f3 hst hbt q0 q1 q2
    go_wp2_with (first
      | refine wpList_load_mid rfl 32 _ rfl b 2 rfl (Gm.ints l) _ hst3 hu rfl hi5 ?_
      | fail)
    refine Calls.mono (HCTk.out W3 HX3.out.1) ?_
    rintro e W4 ⟨rfl, B4⟩
    have N4 : W4.heap[wc.heap.size]? = some (.cells (Gm.stC ⟨i, 0, 0, 0, 0⟩ l).toArray 61 (0, 0)) := by rw [B4.out.block _ (Gm.blk_lt HX3.out.2)]; exact HX3.out.2
    have HB4 : Hid (Below wc.heap.size wc W4) := HX3.out.1.trans (B4.out.mono HX3.out.1.size)
    clear hst3 HCTk B4 HX3
    by_cases hs1 : sm = 1
    · have e3 : (sm == 1) = true := by simpa using hs1
      have HE : Hid (Gm.passS ss ⟨i, 0, 7, 0, 0⟩ (l.set 48 1) L1 [] = R) := by
        have h1 := HR2.out
        rw [HSM.out, if_pos hs1] at h1
        exact h1
      have k2 : W4.cell? ⟨wc.heap.size, 2, none⟩ = some (.int .i64 0) := by simp [World.cell?, N4, Gm.stC, Gm.mvC]
      have k2f : W4.frozen? ⟨wc.heap.size, 2, none⟩ = false := by simp [World.frozen?, N4]
      obtain ⟨W5, hW5⟩ : ∃ z, W4.setCell ⟨wc.heap.size, 2, none⟩ (.int .i64 7) = z := ⟨_, rfl⟩
      have N5 : W5.heap[wc.heap.size]? = some (.cells (Gm.stC ⟨i, 0, 7, 0, 0⟩ l).toArray 61 (0, 0)) := by
        rw [← hW5]
        simp [World.setCell, Array.getElem?_modify, N4, Gm.stC, Gm.mvC]
      have k53 : W5.cell? ⟨wc.heap.size, 53, none⟩ = some (.int .i64 (l.getD 48 0)) := by
        simp only [World.cell?, N5]
        rw [show (53 : Nat) = 5 + 48 from rfl, Gm.stC_get5 (by have := HH.out.2.2.2.2.2.2.2.2.2; omega)]
        rfl
      have k53f : W5.frozen? ⟨wc.heap.size, 53, none⟩ = false := by simp [World.frozen?, N5]
      obtain ⟨W6, hW6⟩ : ∃ z, W5.setCell ⟨wc.heap.size, 53, none⟩ (.int .i64 1) = z := ⟨_, rfl⟩
      have N6 : W6.heap[wc.heap.size]? = some (.cells (Gm.stC ⟨i, 0, 7, 0, 0⟩ (l.set 48 1)).toArray 61 (0, 0)) := by
        rw [← hW6, show (53 : Nat) = 5 + 48 from rfl]; exact Gm.put_st N5
      have hsl : (l.set 48 1).length = 49 := by simpa using HH.out.2.2.2.2.2.2.2.2.2
      have f6 := (HI54.out ⟨i, 0, 7, 0, 0⟩ (l.set 48 1) hsl).1
      have B6 : Below wc.heap.size wc W6 := by
        rw [← hW6, ← hW5]
        exact (HB4.out.setCell (p := ⟨wc.heap.size, 2, none⟩) (Nat.le_refl _) _).setCell (p := ⟨wc.heap.size, 53, none⟩) (Nat.le_refl _) _
      have HC9 : Hid _ := HCA.out W6 B6 ⟨i, 0, 7, 0, 0⟩ (l.set 48 1) (HH.out.2.2.1.high (by omega) _) (Gm.take_set (by omega)) [] (.slice none 0 0) (Gm.ints_nil _) (by simp) (by simp) HE.out
      have HW5 : Hid _ := hW5
      have HW6 : Hid _ := hW6
      clear hW5 hW6 B6 hsl HE hs1 HSM HR2 N4 N5 HCA
      go_upto_region 7 with fail
      rw [HW5.out]
      go_upto_region 8 with fail
      rw [HW6.out]
      clear HW5 HW6 k2 k2f k53 k53f
      go_wp2_with (first
        | refine wpList_load_row rfl 61 _ rfl _ rfl 61 (Gm.stC ⟨i, 0, 7, 0, 0⟩ (l.set 48 1)).toArray (0, 0) _ N6 hus rfl f6 ?_
        | fail)
      refine Calls.mono HC9.out ?_
      rintro e W7 ⟨rfl, H7⟩
      clear HC9 N6
      go_wp2
      go_end0
      exact ⟨rfl, H7.out⟩
    · have e3 : (sm == 1) = false := by simpa using hs1
      have HE : Hid (Gm.passS ss ⟨i, 0, 0, 0, 0⟩ l L1 [] = R) := by
        have h1 := HR2.out
        rw [HSM.out, if_neg hs1] at h1
        exact h1
      have HC9 : Hid _ := HCA.out W4 HB4.out ⟨i, 0, 0, 0, 0⟩ l HH.out.2.2.1 rfl [] (.slice none 0 0) (Gm.ints_nil _) (by simp) (by simp) HE.out
      clear HE hs1 HSM HR2 HCA
      go_wp2_with (first
        | refine wpList_load_row rfl 61 _ rfl _ rfl 61 (Gm.stC ⟨i, 0, 0, 0, 0⟩ l).toArray (0, 0) _ N4 hus rfl f1 ?_
        | fail)
      refine Calls.mono HC9.out ?_
      rintro e W7 ⟨rfl, H7⟩
      clear HC9 N4
      go_wp2
      go_end0
      exact ⟨rfl, H7.out⟩
  have e2 : (kd == 2) = false := by simpa using h2
  by_cases h34 : kd = 3 ∨ kd = 4
  · obtain ⟨y, hy, hy4⟩ : ∃ y : Nat, x.a = (y : Int) ∧ y < 4 := by
      obtain ⟨hi, hx, hk⟩ := HI.out
      have := HH.out.2.2.2.2.2.2.2.2.1.var hi (by rw [hx, hk]; exact h34)
      rw [hx] at this
      exact this
    obtain ⟨hi, hx, hk⟩ := HI.out
    have HCT : Hid _ := Tryz.rdata_any w0 B b (some ⟨g, off, none⟩) n cn af m cf l ss i L1 L2 (.slice a1 n1 c1) (.slice a2 n2 c2) wc HG.out (by have := HH.out.2.1; omega) HC.out.1 HC.out.2.1 HL.out.1 HL.out.2.1 HL.out.2.2.1 HL.out.2.2.2.1 HH.out.2.2.1 (HL.out.2.2.2.2.2.2.2 (by omega)) d ns HH.out.2.2.2.2.1 HH.out.2.2.2.2.2.2.1 (by have h1 := HH.out.2.2.2.2.2.2.1; have h2 := HH.out.2.2.2.2.2.2.2.2.1.n24; omega) hi y (by rw [hx]; exact hy) hy4 (HZ.out.1 _ (List.getElem_mem hi))
    have HE : Hid (ss ++ Gm.dataD l i ns[i].kind y ns[i].t L1 L2 = R) := by
      have := HNS.out
      rw [if_neg h2, if_pos h34, hy, Int.toNat_natCast] at this
      rw [hx, hk]; exact this
    rw [HE.out] at HCT
    have e34 : (kd == 3) = true ∨ ((kd == 3) = false ∧ (kd == 4) = true) := by
      rcases h34 with h | h
      · exact .inl (by simpa using h)
      · exact .inr ⟨by simp [h], by simpa using h⟩
    clear HE
    clear HNS HH HZ HL HI hy hy4 h2 h34 HC HG HCA HNC hx hk hi
    rcases e34 with e3 | ⟨e3, e4⟩
    · go_wp2_with fail
      refine Calls.mono HCT.out ?_
      rintro e W4 ⟨rfl, g4, k4⟩
      have HN : Hid (Gm.D w0 B b (some ⟨g, off, none⟩) n cn af m cf l R W4 ∧ Gm.KeepD X W4) := ⟨g4, HK.out.trans k4⟩
      clear g4 k4 HCT
      go_wp2
      go_end0
      exact ⟨rfl, HN.out⟩
    · go_wp2_with fail
      refine Calls.mono HCT.out ?_
      rintro e W4 ⟨rfl, g4, k4⟩
      have HN : Hid (Gm.D w0 B b (some ⟨g, off, none⟩) n cn af m cf l R W4 ∧ Gm.KeepD X W4) := ⟨g4, HK.out.trans k4⟩
      clear g4 k4 HCT
      go_wp2
      go_end0
      exact ⟨rfl, HN.out⟩
  have e3 : (kd == 3) = false := by simp; omega
  have e4 : (kd == 4) = false := by simp; omega
  by_cases h5 : kd = 5
  · have e5 : (kd == 5) = true := by simpa using h5
    have HCT : Hid _ := Tryz.rxor_any w0 B b (some ⟨g, off, none⟩) n cn af m cf l ss i L1 L2 (.slice a1 n1 c1) (.slice a2 n2 c2) wc HG.out (by have := HH.out.2.1; omega) HC.out.1 HC.out.2.1 HL.out.1 HL.out.2.2.1 HL.out.2.2.2.1 HH.out.2.2.1 (HL.out.2.2.2.2.2.2.2 (by omega)) d fs HH.out.2.2.2.2.2.1 HH.out.2.2.2.2.2.2.2.1 (by have h1 := HH.out.2.2.2.2.2.2.2.1; have h2 := HH.out.2.2.2.2.2.2.2.2.1.f40; omega) HL.out.2.2.2.2.1 HZ.out.2
    have HE : Hid (ss ++ Gm.xorD fs l i L1 L2 = R) := by
      have := HNS.out
      rw [if_neg h2, if_neg h34, if_pos h5] at this
      exact this
    rw [HE.out] at HCT
    clear HNS HH HZ HL HI h2 h34 h5 HC HG HCA HNC HE
    go_wp2_with fail
    refine Calls.mono HCT.out ?_
    rintro e W4 ⟨rfl, g4, k4⟩
    have HN : Hid (Gm.D w0 B b (some ⟨g, off, none⟩) n cn af m cf l R W4 ∧ Gm.KeepD X W4) := ⟨g4, HK.out.trans k4⟩
    clear g4 k4 HCT
    go_wp2
    go_end0
    exact ⟨rfl, HN.out⟩
  have e5 : (kd == 5) = false := by simpa using h5
  by_cases h6 : kd = 6
  · have e6 : (kd == 6) = true := by simpa using h6
    have HE : Hid (Gm.passS ss ⟨i, 0, 0, 0, 0⟩ l L1 L2 = R) := by
      have := HNS.out
      rw [if_neg h2, if_neg h34, if_neg h5, if_pos h6] at this
      exact this
    have HC9 : Hid _ := HCA.out wc (Below.refl _ _) ⟨i, 0, 0, 0, 0⟩ l HH.out.2.2.1 rfl L2 (.slice a2 n2 c2) HC.out.2.1 HL.out.2.1 HL.out.2.2.2.1 HE.out
    have hbt := Gm.built_step2 i l HH.out.2.2.2.2.2.2.2.2.2
    clear HNS HH HZ HL HI h2 h34 h5 h6 HC HG HCA HNC HE
    go_upto_region 15 with fail
    clear q0 q1 q2
    go_wp2_with (first
      | refine wpList_load_mid rfl 32 _ rfl b 2 rfl (Gm.ints l) _ hst hu rfl hi5 ?_
      | refine wpList_buildTo rfl 61 _ rfl (some 75) rfl (Gm.stC ⟨i, 0, 0, 0, 0⟩ l).toArray (Eq.trans (congrArg (Tryz.prog.built 61) (by kernel_rfl)) hbt) ?_
      | fail)
    refine Calls.mono HC9.out ?_
    rintro e W7 ⟨rfl, H7⟩
    clear HC9 hst hbt
    go_wp2
    go_end0
    exact ⟨rfl, H7.out⟩
  have e6 : (kd == 6) = false := by simpa using h6
  by_cases h7 : kd = 7
  · have e7 : (kd == 7) = true := by simpa using h7
    have HR2 : Hid (ss ++ Gm.eventD ns fs l i L1 L2 = R) := by
      have := HNS.out
      rw [if_neg h2, if_neg h34, if_neg h5, if_neg h6, if_pos h7] at this
      exact this
    have HIA : Hid (∀ W, Gm.KeepD wc W → ∀ j, j < n2 → ∃ (g off f : Nat), L2[j]? = some f ∧ a2 = some ⟨g, off, none⟩ ∧ W.cell? ⟨g, off + j, none⟩ = some (.int .i64 f)) := fun W hk j hj => by
      obtain ⟨a', c', hs, ha⟩ := HC.out.2.1
      obtain ⟨rfl, hle, -⟩ := Value.slice.inj hs
      have hja : j < L2.length := by rw [HN12.out.2]; exact hj
      obtain ⟨g', off', cs, fr, h1, h2, h3⟩ := ha j (by rw [List.length_map]; exact hja)
      refine ⟨g', off', L2[j], List.getElem?_eq_getElem hja, h1, ?_⟩
      rw [World.cell?_of_block (w := wc) (a := ⟨g', off' + j, none⟩) (hk g' cs _ fr h2 (by decide) (by decide)), h3]
      simp
    obtain ⟨g2, off2, HF2⟩ : ∃ (g2 off2 : Nat), Hid (∀ (W : World) (s' : List (Mv × List Int)), Gm.D w0 B b (some ⟨g, off, none⟩) n cn af m cf l s' W → ∀ f, f ∈ L2 → ∃ (t : Nat), af = some ⟨g2, off2, none⟩ ∧ f < m ∧ Gm.toOf fs f = t ∧ W.cell? ⟨g2, off2 + f * 6 + 1, none⟩ = some (.int .i64 t) ∧ W.cell? ⟨b, 1, none⟩ = some (.slice af m cf)) := by
      cases haf : af with
      | none =>
        refine ⟨0, 0, fun W p' h f hf => ?_⟩
        have hfl := HL.out.2.2.2.2.1 f hf
        obtain ⟨g', off', u', hga, -⟩ := HH.out.2.2.2.2.2.1 f hfl
        rw [haf] at hga
        cases hga
      | some ad =>
        obtain ⟨g2, off2, el⟩ := ad
        refine ⟨g2, off2, fun W p' h f hf => ?_⟩
        have hfl := HL.out.2.2.2.2.1 f hf
        rw [← haf] at h
        obtain ⟨g', off', u', hga, hgb, k0, k1, -⟩ := Gm.fls_fr HH.out.2.2.2.2.2.1 h.lt h.fr f hfl
        rw [haf] at hga
        simp only [Option.some.injEq, Addr.mk.injEq] at hga
        obtain ⟨rfl, rfl, rfl⟩ := hga
        obtain ⟨v, hA', _⟩ := h.game
        have ht := (HH.out.2.2.2.2.2.2.2.2.1.toL hfl).2
        rw [ht] at k1
        exact ⟨_, rfl, by rw [← HH.out.2.2.2.2.2.2.2.1]; exact hfl, rfl, k1, by rw [← haf]; exact hA'.net1⟩
    have HCC : Hid (∀ (W : World) (s' : List (Mv × List Int)), Gm.D w0 B b (some ⟨g, off, none⟩) n cn af m cf l s' W → s'.length ≤ 4200 → Gm.KeepD wc W → ∀ f, f ∈ L2 → ∀ t, Gm.toOf fs f = t → Calls Tryz.prog 46 #[.pointer (some ⟨b, 0, none⟩), .agg (Gm.stC ⟨i, f, 0, 0, 0⟩ Gm.zeros).toArray, .int .i64 t, .slice a1 n1 c1] W fun e' w' => e' = .returned (.tuple #[]) ∧ Gm.D w0 B b (some ⟨g, off, none⟩) n cn af m cf l (s' ++ Gm.catchD l i f t ((ns[t]?.map Nd.a).getD 0).toNat L1 (Nt.outsL fs t)) w' ∧ Gm.KeepD W w') := fun W s' h hpl hk f hf t ht => by
      obtain ⟨hi, hx, hkk⟩ := HI.out
      have hRt := HH.out.2.2.2.2.2.2.2.2.1
      have hf' : f ∈ Nt.outsL fs i := by rw [HL.out.2.2.2.2.2.2.1]; exact hf
      obtain ⟨htl, htk⟩ := hRt.event hi (by rw [hx, hkk]; exact h7) hf'
      subst ht
      obtain ⟨y, hy, hy4⟩ := hRt.msg htl htk
      have e : ((ns[Gm.toOf fs f]?.map Nd.a).getD 0).toNat = y := by rw [List.getElem?_eq_getElem htl]; show ns[Gm.toOf fs f].a.toNat = y; omega
      rw [e]
      exact Tryz.rcatch_any w0 B b (some ⟨g, off, none⟩) n cn af m cf l s' i f (Gm.toOf fs f) L1 (.slice a1 n1 c1) W h (by omega) (HC.out.1.keepD hk) HL.out.1 HL.out.2.2.1 HH.out.2.2.1 d ns fs HH.out.2.2.2.2.1 HH.out.2.2.2.2.2.1 HH.out.2.2.2.2.2.2.1 HH.out.2.2.2.2.2.2.2.1 hRt.f40 htl y hy hy4 HH.out.2.2.2.1
    have HP4 : Hid (ss.length ≤ 4000 ∧ L2.length = n2 ∧ n2 ≤ 100) := ⟨HH.out.2.1, HN12.out.2, by rw [← HN12.out.2]; exact HL.out.2.2.2.1⟩
    have HS0 : Hid (ss ++ Gm.eventD ns fs l i L1 L2 = R ∧ Gm.D w0 B b (some ⟨g, off, none⟩) n cn af m cf l ss wc) := ⟨HR2.out, HG.out⟩
    have hn2b : n2 ≤ 100 := HP4.out.2.2
    clear HNS HH HZ HL HI h2 h34 h5 h6 h7 HC HG HR2 hu HN12 HCA HNC hst hi5 HI54 hus
    go_wp2
    go_loopg [8, 83] n2 (fun gk _ s83 wr => ∃ (j : Nat) (s' : List (Mv × List Int)), s83 = .int .i64 j ∧ gk + j = n2 ∧ Hid (s' ++ Gm.eventD ns fs l i L1 (L2.drop j) = R ∧ Gm.D w0 B b (some ⟨g, off, none⟩) n cn af m cf l s' wr ∧ Gm.KeepD wc wr ∧ s'.length ≤ ss.length + j))
    case atStart => exact ⟨0, ss, rfl, by omega, HS0.out.1, HS0.out.2, Gm.KeepD.refl _, by omega⟩
    case round =>
      obtain ⟨j, s', rfl, hj, HJ⟩ := hrel
      clear HS0 q0 q1 q2
      by_cases hlt : j < n2
      · have hd : decide ((j : Int) < n2) = true := decide_eq_true (by omega)
        obtain ⟨g5, off5, f, haf, rfl, hcf⟩ := HIA.out wr HJ.out.2.2.1 j hlt
        have hfm : f ∈ L2 := List.mem_of_getElem? haf
        have hdr : L2.drop j = f :: L2.drop (j + 1) := by
          obtain ⟨h1, h2⟩ := List.getElem?_eq_some_iff.1 haf
          rw [← h2]; exact List.drop_eq_getElem_cons h1
        obtain ⟨t, rfl, hf4, ht, k1, k3⟩ := HF2.out wr s' HJ.out.2.1 f hfm
        obtain ⟨cd, hcd⟩ : ∃ z, Gm.catchD l i f t ((ns[t]?.map Nd.a).getD 0).toNat L1 (Nt.outsL fs t) = z := ⟨_, rfl⟩
        have HGO : Hid ((s' ++ cd) ++ Gm.eventD ns fs l i L1 (L2.drop (j + 1)) = R ∧ cd.length ≤ 1) := by
          refine ⟨?_, by rw [← hcd]; exact Gm.catchD_length _ _ _ _ _ _ _⟩
          have := HJ.out.1
          rw [hdr, Gm.eventD, ht, hcd, ← List.append_assoc] at this
          exact this
        have HCT : Hid _ := HCC.out wr s' HJ.out.2.1 (by have h1 := HJ.out.2.2.2; have h2 := HP4.out; omega) HJ.out.2.2.1 f hfm t ht
        rw [hcd] at HCT
        have hbt := Gm.built_step1 i f
        have j1 : (j : Int) < n2 := by omega
        have j0 : (0 : Int) ≤ j := by omega
        have i1 : (f : Int) < m := by omega
        have i0 : (0 : Int) ≤ f := by omega
        clear hdr haf hfm ht HIA hcd
        go_upto_region 20 with fail
        go_wp2_with (first
          | refine wpList_buildTo rfl 61 _ rfl (some 90) rfl (Gm.stC ⟨i, f, 0, 0, 0⟩ Gm.zeros).toArray (Eq.trans (congrArg (Tryz.prog.built 61) (by kernel_rfl)) hbt) ?_
          | fail)
        refine Calls.mono HCT.out ?_
        rintro e W5 ⟨rfl, g5, k5⟩
        have HN : Hid ((s' ++ cd) ++ Gm.eventD ns fs l i L1 (L2.drop (j + 1)) = R ∧ Gm.D w0 B b (some ⟨g, off, none⟩) n cn (some ⟨g2, off2, none⟩) m cf l (s' ++ cd) W5 ∧ Gm.KeepD wc W5 ∧ (s' ++ cd).length ≤ ss.length + (j + 1)) := by
          refine ⟨HGO.out.1, g5, HJ.out.2.2.1.trans k5, ?_⟩
          rw [List.length_append]
          have h1 := HJ.out.2.2.2
          have h2 := HGO.out.2
          omega
        clear g5 k5 HCT HGO HJ hcf k1 k3 hbt
        go_wp2
        go_roundg (gk - 1)
        case measure => omega
        case rel => exact ⟨j + 1, s' ++ cd, by go_num, by omega, HN.out⟩
      · obtain rfl : j = n2 := by omega
        have hd : decide ((j : Int) < j) = false := decide_eq_false (by omega)
        have HN : Hid (Gm.D w0 B b (some ⟨g, off, none⟩) n cn af m cf l R wr ∧ Gm.KeepD X wr) := by
          have h1 := HJ.out.1
          rw [List.drop_eq_nil_of_le (by rw [HP4.out.2.1]; exact Nat.le_refl _), Gm.eventD, List.append_nil] at h1
          rw [← h1]
          exact ⟨HJ.out.2.1, HK.out.trans HJ.out.2.2.1⟩
        clear HJ
        go_wp2
        go_end0
        exact ⟨rfl, HN.out⟩
  have e7 : (kd == 7) = false := by simpa using h7
  by_cases h8 : kd = 8
  · have e8 : (kd == 8) = true := by simpa using h8
    obtain ⟨y, hy, hy4⟩ : ∃ y : Nat, x.a = (y : Int) ∧ y ≤ 4 := by
      obtain ⟨hi, hx, hk⟩ := HI.out
      have := HH.out.2.2.2.2.2.2.2.2.1.msg hi (by rw [hx, hk]; exact h8)
      rw [hx] at this
      exact this
    obtain ⟨hi, hx, hk⟩ := HI.out
    have HCT : Hid _ := Tryz.rcatch_any w0 B b (some ⟨g, off, none⟩) n cn af m cf l ss i 0 i L1 (.slice a1 n1 c1) wc HG.out (by have := HH.out.2.1; omega) HC.out.1 HL.out.1 HL.out.2.2.1 HH.out.2.2.1 d ns fs HH.out.2.2.2.2.1 HH.out.2.2.2.2.2.1 HH.out.2.2.2.2.2.2.1 HH.out.2.2.2.2.2.2.2.1 HH.out.2.2.2.2.2.2.2.2.1.f40 hi y (by rw [hx]; exact hy) hy4 HH.out.2.2.2.1
    have HE : Hid (ss ++ Gm.catchD l i 0 i y L1 (Nt.outsL fs i) = R) := by
      have := HNS.out
      rw [if_neg h2, if_neg h34, if_neg h5, if_neg h6, if_neg h7, if_pos h8, hy, Int.toNat_natCast] at this
      rw [HL.out.2.2.2.2.2.2.1]; exact this
    rw [HE.out] at HCT
    have hbt := Gm.built_step0 i
    clear HE
    clear HNS HH HZ HL HI h2 h34 h5 h6 h7 h8 HC HG hy hy4 hx hk hi HCA HNC hst
    go_upto_region 23 with fail
    go_wp2_with (first
      | refine wpList_buildTo rfl 61 _ rfl (some 107) rfl (Gm.stC ⟨i, 0, 0, 0, 0⟩ Gm.zeros).toArray (Eq.trans (congrArg (Tryz.prog.built 61) (by kernel_rfl)) hbt) ?_
      | fail)
    refine Calls.mono HCT.out ?_
    rintro e W4 ⟨rfl, g4, k4⟩
    have HN : Hid (Gm.D w0 B b (some ⟨g, off, none⟩) n cn af m cf l R W4 ∧ Gm.KeepD X W4) := ⟨g4, HK.out.trans k4⟩
    clear g4 k4 HCT
    go_wp2
    go_end0
    exact ⟨rfl, HN.out⟩
  · have e8 : (kd == 8) = false := by simpa using h8
    have HN : Hid (Gm.D w0 B b (some ⟨g, off, none⟩) n cn af m cf l R wc ∧ Gm.KeepD X wc) := by
      have h1 := HNS.out
      rw [if_neg h2, if_neg h34, if_neg h5, if_neg h6, if_neg h7, if_neg h8, List.append_nil] at h1
      rw [← h1]
      exact ⟨HG.out, HK.out⟩
    clear HNS HH HZ HL HI h2 h34 h5 h6 h7 h8 HC HG HCA HNC hst
    go_wp2
    go_end0
    exact ⟨rfl, HN.out⟩
end Go.Proofs
