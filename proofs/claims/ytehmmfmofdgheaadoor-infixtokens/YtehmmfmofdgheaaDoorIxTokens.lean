/-
  infix: the contract of Tokens.
-/
import Derived.Test.YtehmmfmofdgheaaDoorIxFirst
namespace Go.Proofs
open Go.RowKit

namespace Ix
/-- Tokens as cells. -/
def cells (l : List Tok) : List Value := l.flatMap fun x => [.int .i64 x.kind, .int .i64 (x.at_ : Nat), .string ⟨x.text.toArray⟩]
theorem cells_snoc (l : List Tok) (x : Tok) : cells (l ++ [x]) = cells l ++ [.int .i64 x.kind, .int .i64 (x.at_ : Nat), .string ⟨x.text.toArray⟩] := by simp [cells]
/-- Tokens ahead of others. -/
def app (L : List Tok) : Except Nat (List Tok) → Except Nat (List Tok)
  | .error b => .error b
  | .ok x => .ok (L ++ x)
theorem app_nil (r : Except Nat (List Tok)) : app [] r = r := by cases r <;> rfl
theorem firstR_len (l : List UInt8) (hne : l ≠ []) : (firstR l).1 ≠ 0 → 1 ≤ (firstR l).2.length ∧ (firstR l).2.length ≤ l.length := by
  intro h
  by_cases hr : runL l = []
  · by_cases hs : signL l = []
    · rw [firstR_none hr hs] at h; exact (h rfl).elim
    · rw [firstR_sign hr hs]
      refine ⟨List.length_pos_iff.2 hs, ?_⟩
      rcases sign_first l hne hr with ⟨_, _, h3⟩ | ⟨_, _, h3⟩ | ⟨_, _, h3⟩
      · rw [h3, List.length_take]; omega
      · rw [h3, List.length_take]; omega
      · rw [h3]; simp
  · rw [firstR_run hr]
    exact ⟨List.length_pos_iff.2 hr, tw_le l⟩
/-- One step of the reading. -/
theorem toks_step (n a : Nat) (c : UInt8) (r : List UInt8) : toksF (n + 1) a (c :: r) = if c = 32 then toksF n (a + 1) r else
      if (firstR (c :: r)).1 = 0 then .error a else app [⟨(firstR (c :: r)).1, a, (firstR (c :: r)).2⟩] (toksF n (a + (firstR (c :: r)).2.length) ((c :: r).drop (firstR (c :: r)).2.length)) := by
  rw [toksF]
  split
  · rfl
  · split
    · rfl
    · cases toksF n (a + (firstR (c :: r)).2.length) ((c :: r).drop (firstR (c :: r)).2.length) <;> rfl
theorem app_app (L M : List Tok) (r : Except Nat (List Tok)) : app L (app M r) = app (L ++ M) r := by cases r <;> simp [app]
theorem toks_nil (n a : Nat) : toksF n a [] = .ok [] := by cases n <;> rfl
/-- Where the reading is. -/
def Toks (l : List UInt8) (L : List Tok) (p : Nat) : Prop := ∃ m, l.length - p < m ∧ toksR l = app L (toksF m p (l.drop p))
theorem Toks.start (l : List UInt8) : Toks l [] 0 := ⟨l.length + 1, by omega, by rw [app_nil]; rfl⟩
theorem Toks.fin {l : List UInt8} {L : List Tok} {p : Nat} (h : Toks l L p) (hp : l.length ≤ p) : toksR l = .ok L := by
  obtain ⟨m, _, e⟩ := h
  rw [e, List.drop_of_length_le hp, toks_nil]
  simp [app]
theorem Toks.space {l : List UInt8} {L : List Tok} {p : Nat} (h : Toks l L p) (hp : p < l.length) (hc : l[p] = 32) : Toks l L (p + 1) := by
  obtain ⟨m, hm, e⟩ := h
  obtain ⟨m, rfl⟩ : ∃ k, m = k + 1 := ⟨m - 1, by omega⟩
  refine ⟨m, by omega, ?_⟩
  rw [e, List.drop_eq_getElem_cons hp, toks_step, if_pos hc]
theorem Toks.bad {l : List UInt8} {L : List Tok} {p : Nat} (h : Toks l L p) (hp : p < l.length) (hc : l[p] ≠ 32) (hz : (firstR (l.drop p)).1 = 0) : toksR l = .error p := by
  obtain ⟨m, hm, e⟩ := h
  obtain ⟨m, rfl⟩ : ∃ k, m = k + 1 := ⟨m - 1, by omega⟩
  rw [List.drop_eq_getElem_cons hp] at hz
  rw [e, List.drop_eq_getElem_cons hp, toks_step, if_neg hc, if_pos hz]
  rfl
theorem Toks.take {l : List UInt8} {L : List Tok} {p : Nat} (h : Toks l L p) (hp : p < l.length) (hc : l[p] ≠ 32) (hz : (firstR (l.drop p)).1 ≠ 0) :
    Toks l (L ++ [⟨(firstR (l.drop p)).1, p, (firstR (l.drop p)).2⟩]) (p + (firstR (l.drop p)).2.length) := by
  have hne : l.drop p ≠ [] := by rw [List.drop_eq_getElem_cons hp]; exact List.cons_ne_nil _ _
  have hl := firstR_len _ hne hz
  rw [List.length_drop] at hl
  obtain ⟨m, hm, e⟩ := h
  obtain ⟨m, rfl⟩ : ∃ k, m = k + 1 := ⟨m - 1, by omega⟩
  refine ⟨m, by omega, ?_⟩
  rw [e]
  obtain ⟨q, hq⟩ : ∃ q, l.drop p = q := ⟨_, rfl⟩
  have hq' := hq
  rw [List.drop_eq_getElem_cons hp] at hq'
  rw [hq] at hz ⊢
  rw [← hq'] at hz ⊢
  rw [toks_step, if_neg hc, if_neg hz, app_app]
  rw [hq', ← hq, List.drop_drop]
end Ix

theorem Ix.own_below {X X' : World} {T : TypeId} {B size : Nat} {v : Value} {n : Nat} {cs : List Value} (h : X.ownsRow B T size v n cs) (hb : Below X.heap.size X X') : X'.ownsRow B T size v n cs := by
  rcases h with ⟨hl, h | ⟨g, cap, cur, rfl, hB2, hg, h4⟩⟩
  · exact ⟨hl, .inl h⟩
  · exact ⟨hl, .inr ⟨g, cap, cur, rfl, hB2, by rw [hb.block g (Array.getElem?_eq_some_iff.1 hg).1]; exact hg, h4⟩⟩
theorem Ix.put1 {W : World} {q : Nat} {x y z b : Value} {T : TypeId} (h : W.heap[q]? = some (.cells #[x, y, z] T (0, 0))) : (W.setCell ⟨q, 1, none⟩ b).heap[q]? = some (.cells #[x, b, z] T (0, 0)) := by
  simp [World.setCell, Array.getElem?_modify, h]
theorem Ix.infoTok : (Tryd.prog.info? 32).map (fun i => (i.zero, i.size, i.bytes)) = some (some (.agg #[.int .i64 0, .int .i64 0, .string ⟨#[]⟩]), 3, 32) := by kernel_rfl

/-- What Tokens answers. -/
def Ix.Tokd (l : List UInt8) (w : World) (e : Ending) (w' : World) : Prop :=
  ∃ (a : Option Addr) (n cap : Nat) (at_ : Nat) (err : Int), e = .returned (.tuple #[.slice a n cap, .int .i64 (at_ : Nat), .int .i64 err]) ∧ Below w.heap.size w w' ∧
    if 20000 < l.length then a = none ∧ n = 0 ∧ cap = 0 ∧ at_ = 0 ∧ err = 2 else match Ix.toksR l with
      | .error b => a = none ∧ n = 0 ∧ cap = 0 ∧ at_ = b ∧ err = 4
      | .ok L => at_ = 0 ∧ err = 0 ∧ n = L.length ∧ w'.ownsRow w.heap.size 32 3 (.slice a n cap) n (Ix.cells L)

set_option maxHeartbeats 4000000 in
set_option maxRecDepth 20000 in
theorem Tryd.tokens_any (l : List UInt8) (w : World) (h : Ix.Tabs w) (hO : Tk.Ops w) (hl : l.length ≤ 9223372036854775807) :
    Calls Tryd.prog 9 #[.string ⟨l.toArray⟩] w fun e w' => Ix.Tokd l w e w' := by
  obtain ⟨s, hs⟩ : ∃ s : ByteArray, s = ⟨l.toArray⟩ := ⟨_, rfl⟩
  have hsz := Ix.size_str l s hs
  rw [← hs]
  by_cases hbig : 20000 < s.size
  · have hs9 : s.size ≤ 9223372036854775807 := by omega
    have HB : Hid (20000 < l.length) := by show _ < _; omega
    clear hl hs hsz h hO
    go_enter Tryd.func9, Tryd.ntmps9
    go_wp2
    go_ret3
    exact ⟨none, 0, 0, 0, 2, rfl, Below.refl _ _, by rw [if_pos HB.out]; exact ⟨rfl, rfl, rfl, rfl, rfl⟩⟩
  · obtain ⟨i0, hi, hz0, hz1, hz2⟩ := info_parts Ix.infoTok
    have hs2 : s.size ≤ 20000 := by omega
    have HS2 : Hid (¬ 20000 < l.length) := by show ¬ _; omega
    have HX : Hid (∀ e, s.extract e s.size = ⟨(l.drop e).toArray⟩) := fun e => by rw [hs]; exact Tk.ext_drop l e
    have HG : Hid (∀ j (h1 : j < s.size) (h2 : j < l.length), s[j] = l[j]) := fun j h1 h2 => Ix.get_str l s hs j h1 h2
    have HSZ : Hid (s.size = l.length) := hsz
    have HT : Hid (∀ W, Below w.heap.size w W → Ix.Tabs W ∧ Tk.Ops W) := fun W hW => ⟨h.below hW h.lt, hO.below hW hO.lt⟩
    clear h hO hl hs hsz hbig
    go_enter Tryd.func9, Tryd.ntmps9
    go_wp2
    go_loopg [5, 6] s.size (fun g s5 s6 wr => ∃ (p : Nat) (L : List Ix.Tok), g + p = s.size ∧ s6 = .int .i64 p ∧ Hid (Ix.Toks l L p ∧ Below w.heap.size w wr ∧ L.length ≤ p) ∧ wr.ownsRow w.heap.size 32 3 s5 L.length (Ix.cells L))
    case atStart => exact ⟨0, [], by omega, rfl, ⟨Ix.Toks.start l, Below.refl _ _, by simp⟩, World.ownsRow_nil _ _ _ _⟩
    case round =>
      obtain ⟨p, L, hg, rfl, HI, hown⟩ := hrel
      obtain ⟨va, vc, rfl⟩ := Tk.own_shape hown
      by_cases hp : p < s.size
      · have hpl : p < l.length := by have := HSZ.out; omega
        by_cases hc : s[p] = 32
        · have e1 : ((s[p].toNat : Int) == 32) = true := by rw [hc]; rfl
          have HN : Hid (Ix.Toks l L (p + 1)) := HI.out.1.space hpl (by rw [← HG.out p hp hpl]; exact hc)
          clear hc hpl
          go_wp2
          go_roundg (gk - 1)
          case measure => omega
          case rel => exact ⟨p + 1, L, by omega, by go_num, ⟨HN.out, HI.out.2.1, by have := HI.out.2.2; omega⟩, hown⟩
        · have e1 : ((s[p].toNat : Int) == 32) = false := by
            rw [beq_eq_false_iff_ne]
            intro e
            exact hc (UInt8.toNat_inj.1 (by show s[p].toNat = 32; omega))
          have hne : l.drop p ≠ [] := by rw [List.drop_eq_getElem_cons hpl]; exact List.cons_ne_nil _ _
          have hcl : l[p] ≠ 32 := by rw [← HG.out p hp hpl]; exact hc
          obtain ⟨h1, h2⟩ := HT.out wr HI.out.2.1
          have h3 := Tryd.first_any (l.drop p) wr h1 h2 (by rw [List.length_drop]; have := HSZ.out; omega) hne
          rw [← HX.out] at h3
          obtain ⟨f, hf⟩ : ∃ f, Ix.firstR (l.drop p) = f := ⟨_, rfl⟩
          have hbad := HI.out.1.bad hpl hcl
          have htake := HI.out.1.take hpl hcl
          have hlen := Ix.firstR_len (l.drop p) hne
          rw [hf] at h3 hbad htake hlen
          rw [List.length_drop] at hlen
          obtain ⟨f1, f2⟩ := f
          obtain ⟨tx, htx⟩ : ∃ s : ByteArray, s = ⟨f2.toArray⟩ := ⟨_, rfl⟩
          have htl := Ix.size_str f2 tx htx
          simp only [← htx] at h3
          have H3 : Hid _ := h3
          have HX2 : Hid (tx = ⟨f2.toArray⟩ ∧ tx.size = f2.length) := ⟨htx, htl⟩
          have HLn : Hid (f1 ≠ 0 → 1 ≤ tx.size ∧ tx.size ≤ s.size - p) := fun h => by have h5 := hlen h; simp only at h5; have := HSZ.out; omega
          have HBad : Hid (f1 = 0 → Ix.toksR l = .error p) := hbad
          have HTk : Hid (f1 ≠ 0 → Ix.Toks l (L ++ [⟨f1, p, f2⟩]) (p + tx.size)) := fun h => by have := htake h; rw [htl]; exact this
          have HO : Hid (wr.ownsRow w.heap.size 32 3 (.slice va L.length vc) L.length (Ix.cells L)) := hown
          have hpp : decide ((p : Int) < s.size) = true := decide_eq_true (by omega)
          clear h1 h2 h3 hf hbad htake hlen htx htl hown hc hcl hne hpl
          go_wp2_with fail
          refine Calls.mono H3.out ?_
          rintro e W1 ⟨rfl, b1⟩
          have B1 : Hid (Below wr.heap.size wr W1) := b1
          have N1 : Hid ((W1.alloc (.cells #[.int .i64 f1, .int .i64 0, .string tx] 32)).heap[W1.heap.size]? = some (.cells #[.int .i64 f1, .int .i64 0, .string tx] 32 (0, 0))) := heap_alloc_new W1 _
          obtain ⟨⟨z0, z1, z2⟩, y0, y1, y2⟩ := Tk.row3 N1.out
          clear b1
          by_cases hf0 : f1 = 0
          · subst hf0
            have HB : Hid (Ix.toksR l = .error p) := HBad.out rfl
            have B2 : Hid (Below w.heap.size w (W1.alloc (.cells #[.int .i64 0, .int .i64 0, .string tx] 32))) := (HI.out.2.1.trans (B1.out.mono HI.out.2.1.size)).alloc (Nat.le_trans HI.out.2.1.size B1.out.size) _
            go_wp2
            go_ret3
            exact ⟨none, 0, 0, p, 4, rfl, B2.out, by rw [if_neg HS2.out, HB.out]; exact ⟨rfl, rfl, rfl, rfl, rfl⟩⟩
          · have e2 : (f1 == 0) = false := by simpa using hf0
            have hln := HLn.out hf0
            have HTK : Hid (Ix.Toks l (L ++ [⟨f1, p, f2⟩]) (p + tx.size)) := HTk.out hf0
            clear hf0 HBad HTk HLn
            obtain ⟨wa, hwa⟩ : ∃ x, W1.alloc (.cells #[.int .i64 f1, .int .i64 p, .string tx] 32) = x := ⟨_, rfl⟩
            have NA : Hid (wa.heap[W1.heap.size]? = some (.cells #[.int .i64 f1, .int .i64 p, .string tx] 32 (0, 0))) := by
              show _ = _
              rw [← hwa]
              exact heap_alloc_new W1 _
            have BA : Hid (Below wr.heap.size wr wa) := by
              show Below _ _ _
              rw [← hwa]
              exact B1.out.alloc B1.out.size _
            have HWA : Hid (W1.alloc (.cells #[.int .i64 f1, .int .i64 p, .string tx] 32) = wa) := hwa
            clear hwa
            go_upto_region 12 with fail
            rw [HWA.out]
            obtain ⟨⟨z0, z1, z2⟩, y0, y1, y2⟩ := Tk.row3 NA.out
            have own1 : Hid (wa.ownsRow w.heap.size 32 3 (.slice va L.length vc) L.length (Ix.cells L)) := Ix.own_below HO.out BA.out
            have hnw : ∀ j u, [Value.int .i64 f1, .int .i64 (p : Nat), .string tx][j]? = some u → (wa.alloc (.cells #[.int .i64 f1, .int .i64 p, .string tx] 32)).cell? ((⟨wa.heap.size, 0, none⟩ : Addr).add j) = some u := by
              intro j u hj
              match j, hj with
              | 0, hj => simp at hj; subst hj; simp [Addr.add]
              | 1, hj => simp at hj; subst hj; simp [Addr.add]
              | 2, hj => simp at hj; subst hj; simp [Addr.add]
            have hon : ∀ u ∈ [Value.int .i64 f1, .int .i64 (p : Nat), .string tx], u.oneCell' = true := by
              intro u hu
              simp only [List.mem_cons, List.not_mem_nil, or_false] at hu
              rcases hu with rfl | rfl | rfl <;> rfl
            have hLp := HI.out.2.2
            go_wp2_with (at_builtin; refine wpList_append_own _ rfl _ _ 22 rfl w.heap.size 32 i0 (.agg #[.int .i64 0, .int .i64 0, .string ⟨#[]⟩]) 3 32 Tryd.underlying22 hi hz0 hz1 hz2 rfl (by decide) _ _ _ rfl (own1.out.alloc _) ⟨wa.heap.size, 0, none⟩ 1 1 [.int .i64 f1, .int .i64 (p : Nat), .string tx] rfl rfl hnw hon ?c3 ?c4 ?c5 ?_)
            case c3 => unfold maxLen; omega
            case c4 => omega
            case c5 => simp; have := HI.out.2.1.size; have := BA.out.size; omega
            intro v' W2 own2 g2 _
            obtain ⟨va2, vc2, rfl⟩ := Tk.own_shape own2
            have N2 : Hid (W2.heap[W1.heap.size]? = some (.cells #[.int .i64 f1, .int .i64 p, .string tx] 32 (0, 0))) := by
              show _ = _
              have hs := NA.out
              have hlt := (Array.getElem?_eq_some_iff.1 hs).1
              rw [g2.block _ (by simp; omega) (fun e => by have := (HO.out.lt _ e.symm).2; have := B1.out.size; omega), Below.heap_alloc _ _ _ hlt]
              exact hs
            have B2 : Hid (Below w.heap.size w W2) := Tk.below_grown ((HI.out.2.1.trans (BA.out.mono HI.out.2.1.size)).alloc (Nat.le_trans HI.out.2.1.size BA.out.size) _) (by simp; have := HI.out.2.1.size; have := BA.out.size; omega) (own1.out.alloc _) g2
            obtain ⟨⟨z0, z1, z2⟩, y0, y1, y2⟩ := Tk.row3 N2.out
            go_wp2
            go_roundg (gk - tx.size)
            case measure => omega
            case rel =>
              refine ⟨p + tx.size, L ++ [⟨f1, p, f2⟩], by omega, by go_num, ⟨HTK.out, B2.out, by simp; omega⟩, ?_⟩
              rw [Ix.cells_snoc, List.length_append]
              have e := HX2.out.1
              simp only [List.length_cons, List.length_nil, ← e]
              exact own2
      · have HF : Hid (Ix.toksR l = .ok L) := HI.out.1.fin (by have := HSZ.out; omega)
        go_wp2
        go_ret3
        exact ⟨va, L.length, vc, 0, 0, rfl, HI.out.2.1, by rw [if_neg HS2.out, HF.out]; exact ⟨rfl, rfl, rfl, hown⟩⟩

end Go.Proofs
