/-
  infix: the contract of the document's Read.
-/
import Derived.Test.YtehmmfmofdgheaaDoorIxRTok
import Derived.Test.YtehmmfmofdgheaaDoorIxTokens
namespace Go.Proofs
open Go.RowKit

theorem Ix.infoRTok : (Tryd.prog.info? 33).map (fun i => (i.zero, i.size, i.bytes)) = some (some (.agg #[.int .i64 0, .int .i64 0, .string ⟨#[]⟩]), 3, 32) := by kernel_rfl
theorem Ix.results_toks {fn : Func} {p : Tmp} (h : fn.results = #[.cell p 29]) (tmps : Array Value) (w : World) (q : Nat) (a b : Value)
    (hp : tmps.getD p undef = .pointer (some ⟨q, 0, none⟩)) (hq : w.heap[q]? = some (.cells #[a, b] 29 (0, 0))) :
    (results fn tmps).run Tryd.prog w = .ok (.agg #[a, b]) w := results_cell_row h tmps w q 29 #[a, b] (0, 0) _ hp hq Tryd.underlying29 rfl (by kernel_rfl)
theorem Ix.row2 {W : World} {q : Nat} {x y : Value} {T : TypeId} (h : W.heap[q]? = some (.cells #[x, y] T (0, 0))) :
    (W.cell? ⟨q, 0, none⟩ = some x ∧ W.cell? ⟨q, 1, none⟩ = some y) ∧ W.frozen? ⟨q, 0, none⟩ = false ∧ W.frozen? ⟨q, 1, none⟩ = false := by
  simp [World.cell?, World.frozen?, h]
theorem Ix.put2 {W : World} {q : Nat} {x y a b : Value} {T : TypeId} (h : W.heap[q]? = some (.cells #[x, y] T (0, 0))) : ((W.setCell ⟨q, 0, none⟩ a).setCell ⟨q, 1, none⟩ b).heap[q]? = some (.cells #[a, b] T (0, 0)) := by
  simp [World.setCell, Array.getElem?_modify, h]
theorem Ix.put20 {W : World} {q : Nat} {x y a : Value} {T : TypeId} (h : W.heap[q]? = some (.cells #[x, y] T (0, 0))) : (W.setCell ⟨q, 0, none⟩ a).heap[q]? = some (.cells #[a, y] T (0, 0)) := by
  simp [World.setCell, Array.getElem?_modify, h]

theorem Ix.own_keep {X X' : World} {T : TypeId} {B size : Nat} {v : Value} {n : Nat} {cs : List Value} (h : X.ownsRow B T size v n cs) (hk : ∀ g, v.ownBlock = some g → X'.heap[g]? = X.heap[g]?) : X'.ownsRow B T size v n cs := by
  rcases h with ⟨hl, h | ⟨g, cap, cur, rfl, hB2, hg, h4⟩⟩
  · exact ⟨hl, .inl h⟩
  · exact ⟨hl, .inr ⟨g, cap, cur, rfl, hB2, by rw [hk g rfl]; exact hg, h4⟩⟩
theorem Ix.own_mono {X : World} {T : TypeId} {B B' size : Nat} {v : Value} {n : Nat} {cs : List Value} (h : X.ownsRow B T size v n cs) (hb : B' ≤ B) : X.ownsRow B' T size v n cs := by
  rcases h with ⟨hl, h | ⟨g, cap, cur, rfl, hB2, hg, h4⟩⟩
  · exact ⟨hl, .inl h⟩
  · exact ⟨hl, .inr ⟨g, cap, cur, rfl, Nat.le_trans hb hB2, hg, h4⟩⟩
/-- What Read answers. -/
def Ix.RTokd (l : List UInt8) (w : World) (e : Ending) (w' : World) : Prop := ∃ (a : Option Addr) (n cap : Nat) (bad : Int), e = .returned (.agg #[.slice a n cap, .int .i64 bad]) ∧ Below w.heap.size w w' ∧
  match Ix.toksR l with
  | .error b => a = none ∧ n = 0 ∧ cap = 0 ∧ bad = b
  | .ok L => bad = -1 ∧ n = L.length ∧ w'.ownsRow w.heap.size 33 3 (.slice a n cap) n (Ix.cells L)

/-- Read while it goes: its result, what it has so far, its tokens. -/
structure Ix.RS (w : World) (L : List Ix.Tok) (va : Option Addr) (vc : Nat) (W : World) : Prop where
  below : Below w.heap.size w W
  res : W.heap[w.heap.size]? = some (.cells #[.slice none 0 0, .int .i64 0] 29 (0, 0))
  out : W.heap[w.heap.size + 1]? = some (.cells #[.slice va L.length vc, .int .i64 (-1)] 29 (0, 0))
  own : W.ownsRow (w.heap.size + 2) 33 3 (.slice va L.length vc) L.length (Ix.cells L)
theorem Ix.RS.size {w W : World} {L : List Ix.Tok} {va : Option Addr} {vc : Nat} (h : Ix.RS w L va vc W) : w.heap.size + 2 ≤ W.heap.size := (Array.getElem?_eq_some_iff.1 h.out).1
/-- Another block than these is written. -/
theorem Ix.RS.other {w W W' : World} {L : List Ix.Tok} {va : Option Addr} {vc : Nat} {q : Nat} (h : Ix.RS w L va vc W) (hb : Tk.But (fun k => k = q) W W') (hq : w.heap.size + 2 ≤ q) (ho : ∀ k, (Value.slice va L.length vc).ownBlock = some k → k ≠ q) : Ix.RS w L va vc W' :=
  ⟨h.below.trans ⟨hb.os, hb.tape, hb.output, hb.size, fun k hk => hb.block k (by have := h.below.size; omega) (by omega)⟩, (hb.block _ (Array.getElem?_eq_some_iff.1 h.res).1 (by omega)).trans h.res,
    (hb.block _ (Array.getElem?_eq_some_iff.1 h.out).1 (by omega)).trans h.out, Ix.own_keep h.own fun g hg => hb.block g (h.own.lt g hg).2 (ho g hg)⟩
theorem Ix.RS.next {w W W' : World} {L : List Ix.Tok} {va : Option Addr} {vc : Nat} (h : Ix.RS w L va vc W) (hb : Below W.heap.size W W') : Ix.RS w L va vc W' :=
  ⟨h.below.trans (hb.mono h.below.size), (hb.block _ (Array.getElem?_eq_some_iff.1 h.res).1).trans h.res, (hb.block _ (Array.getElem?_eq_some_iff.1 h.out).1).trans h.out, Ix.own_below h.own hb⟩

set_option maxHeartbeats 4000000 in
set_option maxRecDepth 20000 in
theorem Tryd.rread_any (l : List UInt8) (w : World) (hl : l.length ≤ 20000) :
    Calls Tryd.prog 11 #[.string ⟨l.toArray⟩] w fun e w' => Ix.RTokd l w e w' := by
  obtain ⟨s, hs⟩ : ∃ s : ByteArray, s = ⟨l.toArray⟩ := ⟨_, rfl⟩
  have hsz := Ix.size_str l s hs
  rw [← hs]
  obtain ⟨i0, hi, hz0, hz1, hz2⟩ := info_parts Ix.infoRTok
  have hs2 : s.size ≤ 20000 := by omega
  have HX : Hid (∀ e, e ≤ s.size → s.extract e s.size = ⟨(l.drop e).toArray⟩) := fun e _ => by rw [hs]; exact Tk.ext_drop l e
  have HG : Hid (∀ j (h1 : j < s.size) (h2 : j < l.length), s[j] = l[j]) := fun j h1 h2 => Ix.get_str l s hs j h1 h2
  have HSZ : Hid (s.size = l.length) := hsz
  have HCE : Hid (∀ (W : World) (i : Nat), i ≤ l.length → Calls Tryd.prog 21 #[.string s, .int .i64 i] W fun e w' => e = .returned (.int .i64 ((i + (Ix.runL (l.drop i)).length : Nat))) ∧ w' = W) := fun W i h => by rw [hs]; exact Tryd.rend_any l i W h (by omega)
  have HCS : Hid (∀ (W : World) (i : Nat), i ≤ l.length → Calls Tryd.prog 22 #[.string s, .int .i64 i] W fun e w' => e = .returned (.string ⟨(Ix.signL (l.drop i)).toArray⟩) ∧ Below W.heap.size W w') := fun W i h => by rw [hs]; exact Tryd.rsign_any l i W h (by omega)
  have HEX : Hid (∀ i, s.extract i (i + (Ix.runL (l.drop i)).length) = ⟨(Ix.runL (l.drop i)).toArray⟩) := fun i => by
    show _ = _
    rw [hs]
    refine Tk.ba_eq' ?_
    rw [Lib.extract_data]
    simp only [Nat.add_sub_cancel_left]
    exact Ix.tw_take _
  obtain ⟨w0, hw0⟩ : ∃ x, (w.alloc (.cells #[.slice none 0 0, .int .i64 0] 29)).alloc (.cells #[.slice none 0 0, .int .i64 (-1)] 29) = x := ⟨_, rfl⟩
  have HW0 : Hid ((w.alloc (.cells #[.slice none 0 0, .int .i64 0] 29)).alloc (.cells #[.slice none 0 0, .int .i64 (-1)] 29) = w0) := hw0
  have HS0 : Hid (Ix.RS w [] none 0 w0) := by
    rw [← hw0]
    refine ⟨((Below.refl _ w).alloc (Nat.le_refl _) _).alloc (by simp) _, ?_, ?_, World.ownsRow_nil _ _ _ _⟩
    · rw [Below.heap_alloc _ _ _ (by simp)]; exact heap_alloc_new w _
    · have := heap_alloc_new (w.alloc (.cells #[.slice none 0 0, .int .i64 0] 29)) (.cells #[.slice none 0 0, .int .i64 (-1)] 29)
      simpa using this
  clear hl hs hsz hw0
  go_enter Tryd.func11, Tryd.ntmps11
  go_wp2
  rw [HW0.out]
  go_loopg [4] s.size (fun g s4 wr => ∃ (p : Nat) (L : List Ix.Tok) (va : Option Addr) (vc : Nat), g + p = s.size ∧ s4 = .int .i64 p ∧ Hid (Ix.Toks l L p ∧ L.length ≤ p ∧ Ix.RS w L va vc wr))
  case atStart => exact ⟨0, [], none, 0, by omega, rfl, Ix.Toks.start l, by simp, HS0.out⟩
  case round =>
    obtain ⟨p, L, va, vc, hg, rfl, HI⟩ := hrel
    by_cases hp : p < s.size
    · have hpl : p < l.length := by have := HSZ.out; omega
      obtain ⟨n, hn⟩ : ∃ n, (Ix.runL (l.drop p)).length = n := ⟨_, rfl⟩
      have hc1 := HCE.out wr p (by omega)
      rw [hn] at hc1
      have hnl : p + n ≤ s.size := by have := Ix.tw_le (p := Ix.runB) (l.drop p); rw [List.length_drop] at this; unfold Ix.runL at hn; have := HSZ.out; omega
      obtain ⟨k, hk⟩ : ∃ k, p + n = k := ⟨_, rfl⟩
      rw [hk] at hc1
      have HKN : Hid (p + n = k) := hk
      have hks : k ≤ s.size := by omega
      have hpk : p ≤ k := by omega
      have H1 : Hid _ := hc1
      clear hk hnl
      obtain ⟨sg, hsg⟩ : ∃ s : ByteArray, s = ⟨(Ix.signL (l.drop p)).toArray⟩ := ⟨_, rfl⟩
      have H2 : Hid (Calls Tryd.prog 22 #[.string s, .int .i64 p] wr fun e w' => e = .returned (.string sg) ∧ Below wr.heap.size wr w') := by
        have := HCS.out wr p (by omega)
        rw [← hsg] at this
        exact this
      have HSG : Hid (sg = ⟨(Ix.signL (l.drop p)).toArray⟩) := hsg
      have HN : Hid ((Ix.runL (l.drop p)).length = n) := hn
      have HPL : Hid (p < l.length) := hpl
      have hpd : decide ((p : Int) < s.size) = true := decide_eq_true (by omega)
      clear hc1 hn hsg hpl
      go_wp2_with fail
      refine Calls.mono H1.out ?_
      rintro e W1 ⟨rfl, hW⟩
      obtain rfl := hW.symm
      clear hW H1
      go_wp2_with fail
      refine Calls.mono H2.out ?_
      rintro e W1 ⟨rfl, b1⟩
      clear H2
      have R1 : Hid (Ix.RS w L va vc W1) := HI.out.2.2.next b1
      obtain ⟨wa, hwa⟩ : ∃ x, W1.alloc (.cells #[.int .i64 4, .int .i64 p, .string sg] 33) = x := ⟨_, rfl⟩
      have NA : Hid (wa.heap[W1.heap.size]? = some (.cells #[.int .i64 4, .int .i64 p, .string sg] 33 (0, 0))) := by rw [← hwa]; exact heap_alloc_new W1 _
      have RA : Hid (Ix.RS w L va vc wa) := by rw [← hwa]; exact R1.out.next ((Below.refl _ W1).alloc (Nat.le_refl _) _)
      have HWA : Hid (W1.alloc (.cells #[.int .i64 4, .int .i64 p, .string sg] 33) = wa) := hwa
      have hL2 := HI.out.2.1
      have HI' : Hid (Ix.Toks l L p) := HI.out.1
      obtain ⟨q, hq⟩ : ∃ q, W1.heap.size = q := ⟨_, rfl⟩
      have hq1 : w.heap.size + 2 ≤ q := by rw [← hq]; exact R1.out.size
      have HQ1 : Hid (∀ k, (Value.slice va L.length vc).ownBlock = some k → k < q) := fun k e => by rw [← hq]; exact (R1.out.own.lt k e).2
      have HQ : Hid (W1.heap.size = q) := hq
      rw [hq] at NA
      clear b1 hwa R1 HI hq
      have hex := HEX.out p
      rw [HN.out, HKN.out] at hex
      obtain ⟨rn, hrn⟩ : ∃ s : ByteArray, s = ⟨(Ix.runL (l.drop p)).toArray⟩ := ⟨_, rfl⟩
      rw [← hrn] at hex
      have HRN : Hid (rn = ⟨(Ix.runL (l.drop p)).toArray⟩) := hrn
      obtain ⟨kd, hkd⟩ : ∃ z, Ix.kindR (Ix.runL (l.drop p)) = z := ⟨_, rfl⟩
      have HKD : Hid (Ix.kindR (Ix.runL (l.drop p)) = kd) := hkd
      have HK : Hid (∀ W, Ix.RS w L va vc W → W.heap[q]? = some (.cells #[.int .i64 4, .int .i64 p, .string sg] 33 (0, 0)) → Calls Tryd.prog 23 #[.string rn] W fun e w' => e = .returned (.int .i64 kd) ∧ Ix.RS w L va vc w' ∧ w'.heap[q]? = some (.cells #[.int .i64 4, .int .i64 p, .string sg] 33 (0, 0))) := fun W h1 h2 => by
        have := Tryd.rkind_any (Ix.runL (l.drop p)) W (by rw [HN.out]; have := HKN.out; omega)
        rw [hkd, ← hrn] at this
        exact this.mono fun e w' ⟨he, hb⟩ => ⟨he, h1.next hb, (hb.block _ (Array.getElem?_eq_some_iff.1 h2).1).trans h2⟩
      clear hrn hkd
      go_upto_if 22 with fail
      rw [HWA.out, HQ.out]
      go_cut [] from 22 to 33 (fun wx => ∃ (k1 : Int) (t1 : ByteArray) (f2 : List UInt8), Hid (Ix.RS w L va vc wx ∧ wx.heap[q]? = some (.cells #[.int .i64 k1, .int .i64 p, .string t1] 33 (0, 0)) ∧ t1 = ⟨f2.toArray⟩ ∧ (k1 ≠ 0 → f2 ≠ [] → Ix.firstR (l.drop p) = (k1, f2)) ∧ (k1 = 0 ∨ f2 = [] → (Ix.firstR (l.drop p)).1 = 0)))
      case first =>
        by_cases h0 : p < k
        · have hd : decide ((p : Int) < k) = true := decide_eq_true (by omega)
          have HFR : Hid (Ix.firstR (l.drop p) = (kd, Ix.runL (l.drop p)) ∧ Ix.runL (l.drop p) ≠ []) := by
            have h1 : Ix.runL (l.drop p) ≠ [] := by intro e; have h2 := HN.out; have h3 := HKN.out; rw [e] at h2; simp at h2; omega
            exact ⟨by rw [Ix.firstR_run h1, HKD.out], h1⟩
          go_upto_region 7 with fail
          go_region_law (first | (go_simp; go_at_call 23; refine Calls.mono (HK.out _ ⟨⟨RA.out.below.os, RA.out.below.tape, RA.out.below.output, RA.out.below.size, RA.out.below.block⟩, RA.out.res, RA.out.out, RA.out.own⟩ (by exact NA.out)) ?_; rintro e W3 ⟨rfl, R3', N3'⟩; have R3 : Hid (Ix.RS w L va vc W3) := R3'; have N3 : Hid (W3.heap[q]? = some (.cells #[.int .i64 4, .int .i64 p, .string sg] 33 (0, 0))) := N3'; obtain ⟨⟨z0, z1, z2⟩, y0, y1, y2⟩ := Tk.row3 N3.out; clear R3' N3') | fail)
          all_goals
            go_wp2_with fail
            go_meet
            refine ⟨kd, rn, Ix.runL (l.drop p), R3.out.other (q := q) ?_ hq1 (fun k e => Nat.ne_of_lt (HQ1.out k e)), Tk.put3 N3.out, HRN.out, fun _ _ => HFR.out.1, fun h => ?_⟩
            · exact (((Tk.But.refl _ W3).setCell (E := fun k => k = q) (p := ⟨q, 0, none⟩) rfl _).setCell (E := fun k => k = q) (p := ⟨q, 1, none⟩) rfl _).setCell (E := fun k => k = q) (p := ⟨q, 2, none⟩) rfl _
            · rw [HFR.out.1]
              exact h.resolve_right HFR.out.2
        · have hd : decide ((p : Int) < k) = false := decide_eq_false (by omega)
          have HR0 : Hid (Ix.runL (l.drop p) = []) := List.length_eq_zero_iff.1 (by have := HN.out; have := HKN.out; omega)
          go_wp2_with fail
          go_meet
          refine ⟨4, sg, Ix.signL (l.drop p), RA.out, NA.out, HSG.out, fun _ h => Ix.firstR_sign HR0.out h, fun h => ?_⟩
          rw [Ix.firstR_none HR0.out (h.resolve_left (by decide))]
      case rest =>
      rename World => W5
      obtain ⟨k1, t1, f2, H5⟩ := hcut
      have hpl : p < l.length := HPL.out
      clear HK HKD HRN HKN hks hpk HN HSG HEX NA RA HWA hex
      obtain ⟨⟨z0, z1, z2⟩, y0, y1, y2⟩ := Tk.row3 H5.out.2.1
      by_cases hc : s[p] = 32
      · have e1 : ((s[p].toNat : Int) == 32) = true := by rw [hc]; rfl
        have HN : Hid (Ix.Toks l L (p + 1)) := HI'.out.space hpl (by rw [← HG.out p hp hpl]; exact hc)
        clear hc
        go_wp2
        go_roundg (gk - 1)
        case measure => omega
        case rel => exact ⟨p + 1, L, va, vc, by omega, by go_num, HN.out, by omega, H5.out.1⟩
      · have e1 : ((s[p].toNat : Int) == 32) = false := by
          rw [beq_eq_false_iff_ne]
          intro e
          exact hc (UInt8.toNat_inj.1 (by show s[p].toNat = 32; omega))
        have hcl : l[p] ≠ 32 := by rw [← HG.out p hp hpl]; exact hc
        clear hc
        obtain ⟨te, hte⟩ : ∃ b, t1.toList.isEmpty = b := ⟨_, rfl⟩
        have htf : te = true ↔ f2 = [] := by rw [← hte, H5.out.2.2.1, Lib.toList_data, List.isEmpty_iff]
        by_cases hbad : k1 = 0 ∨ f2 = []
        · have HB : Hid (Ix.toksR l = .error p) := HI'.out.bad hpl hcl (H5.out.2.2.2.2 hbad)
          obtain ⟨⟨x0, x1⟩, v0, v1⟩ := Ix.row2 H5.out.1.res
          have hcs : (k1 == 0) = true ∨ ((k1 == 0) = false ∧ te = true) := by
            by_cases h : k1 = 0
            · left; simpa using h
            · right; exact ⟨by simpa using h, htf.2 (hbad.resolve_left h)⟩
          clear hbad htf hcl
          rcases hcs with e2 | ⟨e2, rfl⟩
          all_goals
            go_wp2
            refine bodyPost_ret (Ix.results_toks Tryd.results11 _ _ w.heap.size _ _ rfl (Ix.put2 H5.out.1.res)) rfl ?_
            refine ⟨none, 0, 0, p, rfl, Tk.bsetCell (Tk.bsetCell H5.out.1.below (Nat.le_refl _) _) (Nat.le_refl _) _, ?_⟩
            rw [HB.out]
            exact ⟨rfl, rfl, rfl, rfl⟩
        · have hk1 : k1 ≠ 0 := fun h => hbad (.inl h)
          have hf2 : f2 ≠ [] := fun h => hbad (.inr h)
          have hfr := H5.out.2.2.2.1 hk1 hf2
          have hlen := Ix.firstR_len (l.drop p) (by rw [List.drop_eq_getElem_cons hpl]; exact List.cons_ne_nil _ _)
          have htake := HI'.out.take hpl hcl
          rw [hfr] at hlen htake
          have htl := Ix.size_str f2 t1 H5.out.2.2.1
          have hln : 1 ≤ t1.size ∧ t1.size ≤ s.size - p := by have h5 := hlen hk1; simp only [List.length_drop] at h5; have := HSZ.out; omega
          have HTK : Hid (Ix.Toks l (L ++ [⟨k1, p, f2⟩]) (p + t1.size)) := by rw [htl]; exact htake hk1
          have e2 : (k1 == 0) = false := by simpa using hk1
          obtain rfl : te = false := by cases te with | false => rfl | true => exact (hf2 (htf.1 rfl)).elim
          obtain ⟨⟨x0, x1⟩, v0, v1⟩ := Ix.row2 H5.out.1.out
          have hq5 := H5.out.1.size
          have hnw : ∀ j u, [Value.int .i64 k1, .int .i64 (p : Nat), .string t1][j]? = some u → (W5.alloc (.cells #[.int .i64 k1, .int .i64 p, .string t1] 33)).cell? ((⟨W5.heap.size, 0, none⟩ : Addr).add j) = some u := by
            intro j u hj
            match j, hj with
            | 0, hj => simp at hj; subst hj; simp [Addr.add]
            | 1, hj => simp at hj; subst hj; simp [Addr.add]
            | 2, hj => simp at hj; subst hj; simp [Addr.add]
          have hon : ∀ u ∈ [Value.int .i64 k1, .int .i64 (p : Nat), .string t1], u.oneCell' = true := by
            intro u hu
            simp only [List.mem_cons, List.not_mem_nil, or_false] at hu
            rcases hu with rfl | rfl | rfl <;> rfl
          clear hbad htf hcl hk1 hf2 hfr hlen htake htl
          go_wp2_with (at_builtin; refine wpList_append_own _ rfl _ _ 27 rfl (w.heap.size + 2) 33 i0 (.agg #[.int .i64 0, .int .i64 0, .string ⟨#[]⟩]) 3 32 Tryd.underlying27 hi hz0 hz1 hz2 rfl (by decide) _ _ _ rfl (H5.out.1.own.alloc _) ⟨W5.heap.size, 0, none⟩ 1 1 [.int .i64 k1, .int .i64 (p : Nat), .string t1] rfl rfl hnw hon ?c3 ?c4 ?c5 ?_)
          case c3 => unfold maxLen; omega
          case c4 => omega
          case c5 => simp; omega
          intro v' W6 own6 g6 _
          obtain ⟨va2, vc2, rfl⟩ := Tk.own_shape own6
          have hal : ∀ j, j < W5.heap.size → (∀ k, (Value.slice va L.length vc).ownBlock = some k → k ≠ j) → W6.heap[j]? = W5.heap[j]? := fun j hj hne => (g6.block _ (by simp; omega) (fun e => hne j e.symm rfl)).trans (Below.heap_alloc _ _ _ hj)
          have N6 : Hid (W6.heap[q]? = some (.cells #[.int .i64 k1, .int .i64 p, .string t1] 33 (0, 0))) := (hal q (Array.getElem?_eq_some_iff.1 H5.out.2.1).1 (fun k e => Nat.ne_of_lt (HQ1.out k e))).trans H5.out.2.1
          have O6 : Hid (W6.heap[w.heap.size + 1]? = some (.cells #[.slice va L.length vc, .int .i64 (-1)] 29 (0, 0))) := (hal _ (by omega) (fun k e => by have := (H5.out.1.own.lt k e).1; omega)).trans H5.out.1.out
          have S6 : Hid (W6.heap[w.heap.size]? = some (.cells #[.slice none 0 0, .int .i64 0] 29 (0, 0))) := (hal _ (by omega) (fun k e => by have := (H5.out.1.own.lt k e).1; omega)).trans H5.out.1.res
          have B6 : Hid (Below w.heap.size w W6) := Tk.below_grown (H5.out.1.below.alloc (by omega) _) (by simp; omega) (Ix.own_mono (H5.out.1.own.alloc _) (Nat.le_add_right _ 2)) g6
          obtain ⟨⟨z0, z1, z2⟩, y0, y1, y2⟩ := Tk.row3 N6.out
          obtain ⟨⟨x0, x1⟩, v0, v1⟩ := Ix.row2 O6.out
          have HO6 : Hid (W6.ownsRow (w.heap.size + 2) 33 3 (.slice va2 (L.length + 1) vc2) (L.length + 1) (Ix.cells L ++ [.int .i64 k1, .int .i64 (p : Nat), .string t1])) := own6
          have HL1 : Hid ((L ++ [(⟨k1, p, f2⟩ : Ix.Tok)]).length = L.length + 1) := List.length_append
          clear hal hnw hon g6 own6
          go_wp2
          go_roundg (gk - t1.size)
          case measure => omega
          case rel =>
            refine ⟨p + t1.size, L ++ [⟨k1, p, f2⟩], va2, vc2, by omega, by go_num, HTK.out, by rw [HL1.out]; omega, ?_⟩
            have hne : ∀ j, j ≠ w.heap.size + 1 → (W6.setCell ⟨w.heap.size + 1, 0, none⟩ (.slice va2 (L.length + 1) vc2)).heap[j]? = W6.heap[j]? := fun j hj => Below.heap_setCell _ _ _ _ hj
            refine ⟨Tk.bsetCell B6.out (Nat.le_succ _) _, (hne _ (by omega)).trans S6.out, ?_, ?_⟩
            · rw [HL1.out]; exact Ix.put20 O6.out
            · rw [HL1.out, Ix.cells_snoc]
              have e := H5.out.2.2.1
              simp only [← e]
              exact Ix.own_keep HO6.out fun g hg => hne g (by have := (HO6.out.lt g hg).1; omega)
    · have HF : Hid (Ix.toksR l = .ok L) := HI.out.1.fin (by have := HSZ.out; omega)
      obtain ⟨⟨z0, z1⟩, y0, y1⟩ := Ix.row2 HI.out.2.2.out
      obtain ⟨⟨x0, x1⟩, v0, v1⟩ := Ix.row2 HI.out.2.2.res
      have hpd : decide ((p : Int) < s.size) = false := decide_eq_false (by omega)
      go_wp2
      refine bodyPost_ret (Ix.results_toks Tryd.results11 _ _ w.heap.size _ _ rfl (Ix.put2 HI.out.2.2.res)) rfl ?_
      refine ⟨va, L.length, vc, -1, rfl, Tk.bsetCell (Tk.bsetCell HI.out.2.2.below (Nat.le_refl _) _) (Nat.le_refl _) _, ?_⟩
      rw [HF.out]
      refine ⟨rfl, rfl, ?_⟩
      refine Ix.own_mono (Ix.own_keep HI.out.2.2.own fun g hg => ?_) (by omega)
      have := (HI.out.2.2.own.lt g hg).1
      exact (Below.heap_setCell _ _ _ _ (by simp; omega)).trans (Below.heap_setCell _ _ _ _ (by simp; omega))

end Go.Proofs
