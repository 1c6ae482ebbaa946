/-
  infix: the contract of Parse.
-/
import Derived.Test.YtehmmfmofdgheaaDoorAllIxAhead
import Derived.Test.YtehmmfmofdgheaaDoorIxWeight
import Derived.Test.YtehmmfmofdgheaaDoorTText
namespace Go.Proofs
open Go.RowKit

namespace Ix
theorem good_of {s : List UInt8} {L : List Tok} (h : toksR s = .ok L) : Good L := fun x hx hk => by
  rcases toks_fit h x hx with ⟨h1, _⟩ | ⟨h1, _⟩ | ⟨_, _, _, _, T, h2, _⟩
  · have : x.kind = 4 := h1; omega
  · have : x.kind = 3 := h1; omega
  · exact ⟨T, h2⟩
theorem cells_get (L : List Tok) (j : Nat) (h : j < L.length) : (cells L)[j * 3]? = some (.int .i64 L[j].kind) ∧ (cells L)[j * 3 + 1]? = some (.int .i64 (L[j].at_ : Nat)) ∧ (cells L)[j * 3 + 2]? = some (.string ⟨L[j].text.toArray⟩) := by
  induction L generalizing j with
  | nil => simp at h
  | cons x r ih =>
    cases j with
    | zero => simp [cells]
    | succ j =>
      have := ih j (by simpa using h)
      have e : cells (x :: r) = [.int .i64 x.kind, .int .i64 (x.at_ : Nat), .string ⟨x.text.toArray⟩] ++ cells r := by simp [cells]
      rw [e, List.getElem?_append_right (by simp; omega), List.getElem?_append_right (by simp; omega), List.getElem?_append_right (by simp; omega)]
      simp only [List.length_cons, List.length_nil, List.getElem_cons_succ]
      rw [show (j + 1) * 3 - (0 + 1 + 1 + 1) = j * 3 by omega, show (j + 1) * 3 + 1 - (0 + 1 + 1 + 1) = j * 3 + 1 by omega, show (j + 1) * 3 + 2 - (0 + 1 + 1 + 1) = j * 3 + 2 by omega]
      exact this
/-- A reader of tokens that were just read. -/
theorem at_made {T : TypeId} {B0 B b : Nat} {L : List Tok} {a : Option Addr} {cap : Nat} {w : World} (h : w.ownsRow B0 T 3 (.slice a L.length cap) L.length (cells L)) (hlt : ∀ g, (Value.slice a L.length cap).ownBlock = some g → g < B) (hb : w.heap[b]? = some (.cells #[.slice a L.length cap] 63 (0, 0))) (hB : B ≤ b) (hL : L.length ≤ 2000) : At B b L w := by
  have hcell := fun (g : Nat) (hg : (Value.slice a L.length cap).ownBlock = some g) => World.ownsRow.cells h hg
  rcases h with ⟨_, ⟨e1, e2⟩ | ⟨g, cap', cur, e, hg, hgg, h1, h2, _⟩⟩
  · injection e1 with e1 e3 e4
    have : L = [] := List.length_eq_zero_iff.1 e2
    subst this
    exact ⟨a, cap, hb, by simp, by omega, by simp, hB, .inl rfl⟩
  · injection e with e1 e3 e4
    subst e1 e4
    refine ⟨_, cap, hb, h1, by unfold maxLen at h2; omega, hL, hB, .inr ⟨g, 0, rfl, hlt g rfl, fun j hj => ?_⟩⟩
    obtain ⟨c0, c1, c2⟩ := cells_get L j hj
    have k0 := hcell g rfl _ _ c0
    have k1 := hcell g rfl _ _ c1
    have k2 := hcell g rfl _ _ c2
    have e : ∀ q, (⟨g, 0, none⟩ : Addr).add q = ⟨g, q, none⟩ := fun q => by
      unfold Addr.add
      split
      · rename_i h0; rw [h0]
      · simp
    rw [e] at k0 k1 k2
    rw [Nat.zero_add]
    exact ⟨k0, k1, k2⟩
/-- What comes of what row tells. -/
def resR (e : Nat) (L : List Tok) : Res → Tm × Nat × Int
  | .error b => (zero, placeOf e L b.length, 4)
  | .ok (T, b) => if b.length = 0 then (if T.textR.2 = 0 then (T, 0, 0) else (zero, 0, T.textR.2)) else (zero, placeOf e L b.length, 4)
theorem parse_ok {s : List UInt8} {L : List Tok} (h : ¬ 20000 < s.length) (hq : toksR s = .ok L) : parse s = if 2000 < L.length then (zero, 0, 5) else resR s.length L (row (9 * L.length + 9) 1 (L.map kt)) := by
  unfold parse
  rw [if_neg h, hq]
  simp only
  split
  · rfl
  · cases row (9 * L.length + 9) 1 (L.map kt) with
    | error b => rfl
    | ok p => obtain ⟨T, b⟩ := p; rfl
theorem place_drop (e : Nat) (L : List Tok) (k : Nat) (hk : k ≤ L.length) : placeOf e L ((L.drop k).map kt).length = placeL e (L.drop k) := by
  unfold placeOf
  rw [List.length_map, List.length_drop, show L.length - (L.length - k) = k by omega]
  cases L.drop k <;> rfl
/-- What Parse answers. -/
def PTold (s : List UInt8) (w : World) (e : Ending) (w' : World) : Prop :=
  ∃ (op n : Int) (a : Option Addr) (len cap : Nat), e = .returned (.tuple #[.agg #[.int .i64 op, .int .i64 n, .slice a len cap], .int .i64 ((parse s).2.1 : Nat), .int .i64 (parse s).2.2]) ∧ Below w.heap.size w w' ∧ op = (parse s).1.op ∧ n = (parse s).1.num ∧ ∃ d, Tm.LiesIn w' w.heap.size w'.heap.size d (.slice a len cap) (parse s).1
theorem lies_zero (w : World) (A B : Nat) : ∃ d, Tm.LiesIn w A B d (.slice none 0 0) zero := ⟨1, none, 0, rfl, .inl rfl⟩
theorem results_parse {fn : Func} {p u v : Tmp} (h : fn.results = #[.cell p 37, .tmp u, .tmp v]) (tmps : Array Value) (w : World) (q : Nat) (a b c : Value)
    (hp : tmps.getD p undef = .pointer (some ⟨q, 0, none⟩)) (hq : w.heap[q]? = some (.cells #[a, b, c] 37 (0, 0))) :
    (results fn tmps).run Tryd.prog w = .ok (.tuple #[.agg #[a, b, c], tmps.getD u undef, tmps.getD v undef]) w := by
  have hp' : tmps[p]?.getD undef = .pointer (some ⟨q, 0, none⟩) := by simpa using hp
  have hr := run_loadVar_row (P := Tryd.prog) w q 37 37 #[a, b, c] (0, 0) _ hq Tryd.underlying37 rfl (by kernel_rfl)
  simp [results, h, hp', asAddr, hr]
end Ix

set_option maxHeartbeats 8000000 in
set_option maxRecDepth 20000 in
theorem Tryd.iparse_any (l : List UInt8) (w : World) (h : Ix.Tabs w) (hO : Tk.Ops w) (hs0 : 0 < w.heap.size) (hTab : Lib.TabBelow Tryd.prog w.heap.size w "internal/strconv.uint64pow10" .u64 Lib.pow10Tab) (hl : l.length ≤ 9223372036854775807) :
    Calls Tryd.prog 12 #[.string ⟨l.toArray⟩] w fun e w' => Ix.PTold l w e w' := by
  obtain ⟨s, hs⟩ : ∃ s : ByteArray, s = ⟨l.toArray⟩ := ⟨_, rfl⟩
  have hsz := Ix.size_str l s hs
  obtain ⟨w0, hw0⟩ : ∃ x, w.alloc (.cells #[.int .i64 0, .int .i64 0, .slice none 0 0] 37) = x := ⟨_, rfl⟩
  have HW0 : Hid (w.alloc (.cells #[.int .i64 0, .int .i64 0, .slice none 0 0] 37) = w0) := hw0
  have HB0 : Hid (Below w.heap.size w w0) := by rw [← hw0]; exact (Below.refl _ w).alloc (Nat.le_refl _) _
  have HS0 : Hid (w0.heap.size = w.heap.size + 1) := by show _ = _; rw [← hw0]; simp
  have HN0 : Hid (w0.heap[w.heap.size]? = some (.cells #[.int .i64 0, .int .i64 0, .slice none 0 0] 37 (0, 0))) := by rw [← hw0]; exact heap_alloc_new w _
  have HEE : Hid (∀ W, Below w.heap.size w W → Ix.Env w.heap.size W) := fun W hW => ⟨h.below hW h.lt, hO.below hW hO.lt, h.lt, hs0, hO.lt⟩
  have HTB : Hid (∀ W, Below w.heap.size w W → Lib.TabIs Tryd.prog W "internal/strconv.uint64pow10" .u64 Lib.pow10Tab) := hTab
  have h1 := Tryd.tokens_any l w0 (HEE.out w0 HB0.out).tabs (HEE.out w0 HB0.out).ops hl
  rw [← hs] at h1 ⊢
  have H1 : Hid (Calls Tryd.prog 9 #[.string s] w0 fun e w' => Ix.Tokd l w0 e w') := h1
  have hs9 : s.size ≤ 9223372036854775807 := by omega
  have HSZ : Hid (s.size = l.length) := hsz
  obtain ⟨pr, hpr⟩ : ∃ p, Ix.parse l = p := ⟨_, rfl⟩
  have HPR : Hid (Ix.parse l = pr) := hpr
  have HEND : Hid (∀ (W3 : World) (x y z : Value), Below w.heap.size w W3 → Below w.heap.size w (((W3.setCell ⟨w.heap.size, 0, none⟩ x).setCell ⟨w.heap.size, 1, none⟩ y).setCell ⟨w.heap.size, 2, none⟩ z)) := fun W3 x y z hb => Tk.bsetCell (Tk.bsetCell (Tk.bsetCell hb (Nat.le_refl _) _) (Nat.le_refl _) _) (Nat.le_refl _) _
  have HBAD : Hid (∀ (W3 : World) (at_ : Nat) (er : Int), Below w.heap.size w W3 → Ix.parse l = (Ix.zero, at_, er) → Ix.PTold l w (.returned (.tuple #[.agg #[.int .i64 0, .int .i64 0, .slice none 0 0], .int .i64 (at_ : Nat), .int .i64 er])) (((W3.setCell ⟨w.heap.size, 0, none⟩ (.int .i64 0)).setCell ⟨w.heap.size, 1, none⟩ (.int .i64 0)).setCell ⟨w.heap.size, 2, none⟩ (.slice none 0 0))) := fun W3 at_ er hb he => by
    refine ⟨0, 0, none, 0, 0, by rw [he], HEND.out _ _ _ _ hb, by rw [he]; rfl, by rw [he]; rfl, ?_⟩
    rw [he]
    exact Ix.lies_zero _ _ _
  clear hw0 h1 h hO hTab hs hsz hl hpr hs0
  go_enter Tryd.func12, Tryd.ntmps12
  go_upto_region 1 with fail
  rw [HW0.out]
  go_wp2_with fail
  refine Calls.mono H1.out ?_
  rintro e W1 ⟨a, n, cap, at1, er1, rfl, b1, ht⟩
  have B1 : Hid (Below w.heap.size w W1) := HB0.out.trans (b1.mono HB0.out.size)
  have N1 : Hid (W1.heap[w.heap.size]? = some (.cells #[.int .i64 0, .int .i64 0, .slice none 0 0] 37 (0, 0))) := (b1.block _ (by rw [HS0.out]; omega)).trans HN0.out
  obtain ⟨⟨x0, x1, x2⟩, y0, y1, y2⟩ := Tk.row3 N1.out
  by_cases hbig : 20000 < l.length
  · rw [if_pos hbig] at ht
    obtain ⟨rfl, rfl, rfl, rfl, rfl⟩ := ht
    have HP : Hid (Ix.parse l = (Ix.zero, 0, 2)) := by show _ = _; unfold Ix.parse; rw [if_pos hbig]
    clear b1 hbig H1
    go_wp2
    refine bodyPost_ret (Ix.results_parse Tryd.results12 _ _ w.heap.size _ _ _ rfl (Tk.put3 N1.out)) rfl ?_
    exact HBAD.out _ _ _ B1.out HP.out
  rw [if_neg hbig] at ht
  cases hq : Ix.toksR l with
  | error bb =>
    rw [hq] at ht
    obtain ⟨rfl, rfl, rfl, rfl, rfl⟩ := ht
    have HP : Hid (Ix.parse l = (Ix.zero, at1, 4)) := by show _ = _; unfold Ix.parse; rw [if_neg hbig, hq]
    clear b1 hbig H1 hq
    go_wp2
    refine bodyPost_ret (Ix.results_parse Tryd.results12 _ _ w.heap.size _ _ _ rfl (Tk.put3 N1.out)) rfl ?_
    exact HBAD.out _ _ _ B1.out HP.out
  | ok L =>
    rw [hq] at ht
    obtain ⟨rfl, rfl, rfl, hown⟩ := ht
    have HP : Hid (Ix.parse l = if 2000 < L.length then (Ix.zero, 0, 5) else Ix.resR l.length L (Ix.row (9 * L.length + 9) 1 (L.map Ix.kt))) := Ix.parse_ok hbig hq
    have HGD : Hid (Ix.Good L ∧ ∀ x ∈ L, Ix.Fit (Ix.kt x)) := ⟨Ix.good_of hq, Ix.toks_fit hq⟩
    have HOW : Hid (W1.ownsRow w0.heap.size 32 3 (.slice a L.length cap) L.length (Ix.cells L)) := hown
    by_cases hmany : 2000 < L.length
    · have hd : decide ((2000 : Int) < L.length) = true := decide_eq_true (by omega)
      have HP2 : Hid (Ix.parse l = (Ix.zero, 0, 5)) := by show _ = _; rw [HP.out, if_pos hmany]
      clear b1 hbig H1 hq hown hmany
      go_wp2
      refine bodyPost_ret (Ix.results_parse Tryd.results12 _ _ w.heap.size _ _ _ rfl (Tk.put3 N1.out)) rfl ?_
      exact HBAD.out _ _ _ B1.out HP2.out
    have hd : decide ((2000 : Int) < L.length) = false := decide_eq_false (by omega)
    obtain ⟨b, hb⟩ : ∃ z, W1.heap.size = z := ⟨_, rfl⟩
    obtain ⟨W2, hW2⟩ : ∃ z, W1.alloc (.cells #[.slice a L.length cap] 63) = z := ⟨_, rfl⟩
    have HW2 : Hid (W1.alloc (.cells #[.slice a L.length cap] 63) = W2 ∧ W1.heap.size = b) := ⟨hW2, hb⟩
    have B2 : Below W1.heap.size W1 W2 := by rw [← hW2]; exact (Below.refl _ W1).alloc (Nat.le_refl _) _
    have C2 : W2.heap[b]? = some (.cells #[.slice a L.length cap] 63 (0, 0)) := by rw [← hb, ← hW2]; exact heap_alloc_new W1 _
    have A2 : Ix.At b b L W2 := Ix.at_made (Ix.own_below hown B2) (fun g hg => by rw [← hb]; exact (hown.lt g hg).2) C2 (Nat.le_refl _) (by omega)
    have hwb : w.heap.size < b := by rw [← hb]; exact (Array.getElem?_eq_some_iff.1 N1.out).1
    have BW2 : Below w.heap.size w W2 := B1.out.trans (B2.mono B1.out.size)
    have E2 : Ix.Env b W2 := ⟨(HEE.out W2 BW2).tabs, (HEE.out W2 BW2).ops, by have := (HEE.out W2 BW2).b1; omega, by have := (HEE.out W2 BW2).b2; omega, by have := (HEE.out W2 BW2).b3; omega⟩
    have H3 : Hid _ := Tryd.row_any (9 * L.length + 9) b b 1 L W2 A2 E2 HGD.out.1 (by omega) (by omega) (by omega)
    have N2 : Hid (W2.heap[w.heap.size]? = some (.cells #[.int .i64 0, .int .i64 0, .slice none 0 0] 37 (0, 0))) := (B2.block _ (by omega)).trans N1.out
    have HB2 : Hid (Below w.heap.size w W2 ∧ w.heap.size < b ∧ b < W2.heap.size ∧ L.length ≤ 2000) := ⟨BW2, hwb, (Array.getElem?_eq_some_iff.1 C2).1, by omega⟩
    obtain ⟨rs, hrs⟩ : ∃ z, Ix.row (9 * L.length + 9) 1 (L.map Ix.kt) = z := ⟨_, rfl⟩
    have HRS : Hid (Ix.row (9 * L.length + 9) 1 (L.map Ix.kt) = rs) := hrs
    have HP2 : Hid (Ix.parse l = Ix.resR l.length L rs) := by show _ = _; rw [HP.out, if_neg hmany, hrs]
    rw [hrs] at H3
    clear b1 hbig H1 hq hown hmany hb hW2 B2 C2 A2 hwb BW2 E2 hrs HP
    go_upto_region 7 with fail
    rw [HW2.out.1, HW2.out.2]
    go_wp2_with fail
    refine Calls.mono H3.out ?_
    rintro e W3 ⟨o3, m3, a3, len3, cap3, rfl, b3, hl3⟩
    have j1 := HB2.out
    have N3 : Hid (W3.heap[w.heap.size]? = some (.cells #[.int .i64 0, .int .i64 0, .slice none 0 0] 37 (0, 0))) := (b3.block _ (by omega) (by omega)).trans N2.out
    have BW3 : Hid (Below w.heap.size w W3) := j1.1.trans ⟨b3.os, b3.tape, b3.output, b3.size, fun k hk => b3.block k (by omega) (by omega)⟩
    have HL3 : Hid (Ix.Left b b L W2 o3 m3 (.slice a3 len3 cap3) W3 rs) := hl3
    obtain ⟨W4, hW4⟩ : ∃ z, W3.alloc (.cells #[.int .i64 o3, .int .i64 m3, .slice a3 len3 cap3] 37) = z := ⟨_, rfl⟩
    have HW4 : Hid (W3.alloc (.cells #[.int .i64 o3, .int .i64 m3, .slice a3 len3 cap3] 37) = W4) := hW4
    have B4 : Hid (Below W3.heap.size W3 W4) := by rw [← hW4]; exact (Below.refl _ W3).alloc (Nat.le_refl _) _
    have C4 : Hid (W4.heap[W3.heap.size]? = some (.cells #[.int .i64 o3, .int .i64 m3, .slice a3 len3 cap3] 37 (0, 0))) := by rw [← hW4]; exact heap_alloc_new W3 _
    have N4 : Hid (W4.heap[w.heap.size]? = some (.cells #[.int .i64 0, .int .i64 0, .slice none 0 0] 37 (0, 0))) := (B4.out.block _ (Array.getElem?_eq_some_iff.1 N3.out).1).trans N3.out
    have BW4 : Hid (Below w.heap.size w W4) := BW3.out.trans (B4.out.mono BW3.out.size)
    obtain ⟨k, hk, hA4, hkr⟩ : ∃ k, k ≤ L.length ∧ Ix.At b b (L.drop k) W4 ∧ (rs = .error ((L.drop k).map Ix.kt) ∨ ∃ T, rs = .ok (T, (L.drop k).map Ix.kt) ∧ o3 = T.op ∧ m3 = T.num ∧ ∃ d, Tm.LiesIn W4 W2.heap.size W3.heap.size d (.slice a3 len3 cap3) T) := by
      cases rs with
      | error t => obtain ⟨k, h1, h2, h3⟩ := hl3; exact ⟨k, h1, h3.below B4.out, .inl (by rw [h2])⟩
      | ok p =>
        obtain ⟨T, t⟩ := p
        obtain ⟨k, h1, h2, h3, h4, h5, d, h6⟩ := hl3
        exact ⟨k, h1, h3.below B4.out, .inr ⟨T, by rw [h2], h4, h5, d, h6.keep fun j _ hj => B4.out.block j hj⟩⟩
    have HA4 : Hid (Ix.At b b (L.drop k) W4) := hA4
    obtain ⟨a4, cap4, hc4, _⟩ := hA4
    have c4 : W4.cell? ⟨b, 0, none⟩ = some (.slice a4 (L.drop k).length cap4) := by simp [World.cell?, hc4]
    obtain ⟨n4, hn4⟩ : ∃ z, (L.drop k).length = z := ⟨_, rfl⟩
    rw [hn4] at c4
    have HN4 : Hid ((L.drop k).length = n4) := hn4
    have HKK : Hid (k ≤ L.length) := hk
    obtain ⟨pl, hpl⟩ : ∃ z, Ix.placeOf l.length L ((L.drop k).map Ix.kt).length = z := ⟨_, rfl⟩
    have HPLE : Hid (Ix.placeOf l.length L ((L.drop k).map Ix.kt).length = pl) := hpl
    have HPL : Hid (∀ W, Below W4.heap.size W4 W → Calls Tryd.prog 25 #[.pointer (some ⟨b, 0, none⟩), .int .i64 s.size] W fun e w' => e = .returned (.int .i64 (pl : Nat)) ∧ w' = W) := fun W hW => by
      have := Tryd.iplace_any b b (L.drop k) s.size W (HA4.out.below hW)
      rw [← HPLE.out, Ix.place_drop _ _ _ HKK.out, ← HSZ.out]
      exact this
    obtain ⟨⟨z0, z1, z2⟩, -⟩ := Tk.row3 C4.out
    obtain ⟨⟨p0, p1, p2⟩, q0, q1, q2⟩ := Tk.row3 N4.out
    clear b3 hl3 hW4 j1 hc4 hn4 hk hpl x0 x1 x2 y0 y1 y2
    rcases hkr with hkr | ⟨T, hkr, ho3, hm3, hli⟩
    · have HP3 : Hid (Ix.parse l = (Ix.zero, pl, 4)) := by show _ = _; rw [← HPLE.out, HP2.out, hkr]; rfl
      subst hkr
      rw [show Ix.okB (Except.error ((L.drop k).map Ix.kt)) = false from rfl]
      go_upto_region 8 with fail
      rw [HW4.out]
      go_wp2_with fail
      refine Calls.mono (HPL.out _ (Below.refl _ _)) ?_
      rintro e W5 ⟨rfl, hW⟩
      obtain rfl := hW.symm
      clear hW
      go_wp2
      refine bodyPost_ret (Ix.results_parse Tryd.results12 _ _ w.heap.size _ _ _ rfl (Tk.put3 N4.out)) rfl ?_
      exact HBAD.out _ _ _ BW4.out HP3.out
    · subst hkr
      rw [show Ix.okB (Except.ok (T, (L.drop k).map Ix.kt)) = true from rfl]
      by_cases hn0 : n4 = 0
      · have hb0 : ((L.drop k).map Ix.kt).length = 0 := by rw [List.length_map, HN4.out, hn0]
        have HP3 : Hid (Ix.parse l = if T.textR.2 = 0 then (T, 0, 0) else (Ix.zero, 0, T.textR.2)) := by show _ = _; rw [HP2.out]; simp only [Ix.resR]; rw [if_pos hb0]
        have hwt := (Ix.row_weight Ix.weigh_size (9 * L.length + 9) 1 (L.map Ix.kt) T _ (by omega) (by omega) (fun x hx => by obtain ⟨y, hy, rfl⟩ := List.mem_map.1 hx; exact HGD.out.2 y hy) HRS.out).2
        simp only [List.length_map] at hwt
        have hmm := HB2.out.2.2.2
        obtain ⟨d, hli⟩ := hli
        have h6 := Tryd.text_any d T (.slice a3 len3 cap3) W4 (hli.lies.wider B4.out.size) (HEE.out W4 BW4.out).ops (HTB.out W4 BW4.out) (by omega)
        obtain ⟨tq, htq⟩ : ∃ z, T.textR = z := ⟨_, rfl⟩
        obtain ⟨tl, te⟩ := tq
        rw [htq] at HP3 h6
        rw [← ho3, ← hm3] at h6
        have H6 : Hid _ := h6
        have HLI : Hid (Tm.LiesIn W4 W2.heap.size W3.heap.size d (.slice a3 len3 cap3) T ∧ o3 = T.op ∧ m3 = T.num) := ⟨hli, ho3, hm3⟩
        subst hn0
        clear hwt hmm hli h6 htq hb0 ho3 hm3
        go_upto_region 8 with fail
        rw [HW4.out]
        go_wp2_with fail
        refine Calls.mono H6.out ?_
        rintro e W5 ⟨rfl, b5⟩
        have B5 : Hid (Below W4.heap.size W4 W5) := b5
        have N5 : Hid (W5.heap[w.heap.size]? = some (.cells #[.int .i64 0, .int .i64 0, .slice none 0 0] 37 (0, 0))) := (B5.out.block _ (Array.getElem?_eq_some_iff.1 N4.out).1).trans N4.out
        have C5 : Hid (W5.heap[W3.heap.size]? = some (.cells #[.int .i64 o3, .int .i64 m3, .slice a3 len3 cap3] 37 (0, 0))) := (B5.out.block _ (Array.getElem?_eq_some_iff.1 C4.out).1).trans C4.out
        have BW5 : Hid (Below w.heap.size w W5) := BW4.out.trans (B5.out.mono BW4.out.size)
        obtain ⟨⟨z0, z1, z2⟩, -⟩ := Tk.row3 C5.out
        obtain ⟨⟨p0, p1, p2⟩, q0, q1, q2⟩ := Tk.row3 N5.out
        clear b5
        by_cases he : te = 0
        · subst he
          have HP4 : Hid (Ix.parse l = (T, 0, 0)) := by show _ = _; rw [HP3.out]; rfl
          go_wp2
          refine bodyPost_ret (Ix.results_parse Tryd.results12 _ _ w.heap.size _ _ _ rfl (Tk.put3 N5.out)) rfl ?_
          refine ⟨o3, m3, a3, len3, cap3, by rw [HP4.out]; rfl, HEND.out _ _ _ _ BW5.out, by rw [HP4.out]; exact HLI.out.2.1, by rw [HP4.out]; exact HLI.out.2.2, d, ?_⟩
          rw [HP4.out]
          have hwb := HB2.out
          have hs4 := B4.out.size
          have hs5 := B5.out.size
          exact ((HLI.out.1.keep fun j hj1 hj2 => B5.out.block j (by omega)).keep fun j hj1 hj2 => Ix.set3_other W5 w.heap.size (by omega)).wider (by omega) (by simp [World.setCell]; omega)
        · have hne : (te == 0) = false := by simpa using he
          have HP4 : Hid (Ix.parse l = (Ix.zero, 0, te)) := by show _ = _; rw [HP3.out]; exact if_neg he
          clear he
          go_wp2
          refine bodyPost_ret (Ix.results_parse Tryd.results12 _ _ w.heap.size _ _ _ rfl (Tk.put3 N5.out)) rfl ?_
          exact HBAD.out _ _ _ BW5.out HP4.out
      · have HP3 : Hid (Ix.parse l = (Ix.zero, pl, 4)) := by
          show _ = _
          rw [← HPLE.out, HP2.out]
          simp only [Ix.resR]
          rw [if_neg (by rw [List.length_map, HN4.out]; exact hn0)]
        have hnp : 0 < n4 := by omega
        clear hn0 hli ho3 hm3
        go_upto_region 8 with fail
        rw [HW4.out]
        go_wp2_with fail
        refine Calls.mono (HPL.out _ (Below.refl _ _)) ?_
        rintro e W5 ⟨rfl, hW⟩
        obtain rfl := hW.symm
        clear hW
        go_wp2
        refine bodyPost_ret (Ix.results_parse Tryd.results12 _ _ w.heap.size _ _ _ rfl (Tk.put3 N4.out)) rfl ?_
        exact HBAD.out _ _ _ BW4.out HP3.out

end Go.Proofs
