/-
  The specification's body of a note. Condition: the note is right.
-/
import Derived.Test.YtlniljigeemnoaaGreatNOk
set_option linter.unusedVariables false
set_option linter.unusedSimpArgs false
set_option maxRecDepth 100000
set_option maxHeartbeats 8000000
namespace Go.Proofs.YtlniljigeemnoaaGreat.Gen
open ChangeShapes WideShapes ChangeAt RowKit Joins Deep Base
theorem via0' {w W0 W : World} (B0 : Below w.heap.size w W0) (h : Below W0.heap.size W0 W) : Below w.heap.size w W := via0 h B0
structure NtR (kind term vote prev : Int) (l : List En) (snap : ByteArray) : Prop where
  k : 1 <= kind /\ kind <= 3
  t : 0 <= term /\ term <= 300
  v : -1 <= vote /\ vote <= 4
  p : 0 <= prev /\ prev <= 300
  len : l.length <= 40
  ok : ∀ x ∈ l, enF x = true
  en : ∀ x ∈ l, EnR x
  s : snap.size <= 30000
theorem Qfp {kind term vote prev : Int} {l : List En} {snap : ByteArray} (h : Qhg kind term vote prev l snap = true) : NtR kind term vote prev l snap := by
 unfold Qhg at h
 simp only [Bool.and_eq_true, decide_eq_true_eq] at h
 obtain ⟨⟨⟨⟨⟨⟨h0, h1⟩, h2⟩, h3⟩, h4⟩, h5⟩, h6⟩ := h
 have hk : 1 <= kind /\ kind <= 3 := by
  unfold ownB at h0
  split at h0
  . omega
  . split at h0
    . omega
    . split at h0
      . omega
      . cases h0
 have hall : ∀ x ∈ l, entF x = true := List.all_eq_true.1 h5
 have hok : ∀ x ∈ l, enF x = true := fun x hx => by have := hall x hx; unfold entF at this; simp only [Bool.and_eq_true] at this; exact this.2
 have hte : ∀ x ∈ l, 0 <= x.term /\ x.term <= 300 := fun x hx => by have := hall x hx; unfold entF at this; simp only [Bool.and_eq_true] at this; exact in_le this.1
 exact ⟨hk, in_le h1, in_le h2, in_le h3, h4, hok, fun x hx => ⟨⟨(hte x hx).1, by have := (hte x hx).2; omega⟩, Qhe (hok x hx)⟩, h6⟩
theorem l9Body_any (kind term vote prev : Int) (snap : ByteArray) (A : Option Addr) (cap : Nat) (l : List En) (hR : NtR kind term vote prev l snap) (hr : ∀ x ∈ l, x.fit) (w : World) (hA : At w A l) :
 Calls Tryz.prog 47 #[.agg (Qbe kind term vote prev A l.length cap snap)] w fun e w' => ∃ a c, e = .returned (.slice a (Qfz kind term vote prev l snap).length c) /\ Below w.heap.size w w' /\ w'.ownsRow w.heap.size 5 1 (.slice a (Qfz kind term vote prev l snap).length c) (Qfz kind term vote prev l snap).length (flat (Qfz kind term vote prev l snap)) := by
 obtain ⟨k0, t0, v0, p0, hl, hok, hen, hs⟩ := hR
 have B0 : Hid (Below w.heap.size w (w.alloc (.cells (Qbe kind term vote prev A l.length cap snap) 72))) := Qaf (Below.refl _ _) _
 have P0 : Blk (w.alloc (.cells (Qbe kind term vote prev A l.length cap snap) 72)) w.heap.size 72 (Qbe kind term vote prev A l.length cap snap) := Blk.new w 72 (Qbe kind term vote prev A l.length cap snap)
 have HA := hidP (hA.below B0.out)
 have HR := hidP hok
 have HE := hidP hen
 have HF := hidP hr
 clear hA hok hen hr
 go_enter Tryz.func47, Tryz.ntmps47
 go_wp2_with fail
 generalize w.alloc (.cells (Qbe kind term vote prev A l.length cap snap) 72) = W0 at *
 have SS : ∀ W : World, Below W0.heap.size W0 W -> (fun (W : World) => W.cell? ⟨w.heap.size, 0, none⟩ = some (.int .i64 kind) /\ W.cell? ⟨w.heap.size, 1, none⟩ = some (.int .i64 term)) W := fun W g => ⟨(P0.below g P0.lt).cell (i := 0) rfl, (P0.below g P0.lt).cell (i := 1) rfl⟩
 have S0 := SS W0.drew (Below.drew (Below.refl _ _))
 refine wp_region_noPanic ?_
 refine wp_region_held_drew (S := (fun (W : World) => W.cell? ⟨w.heap.size, 0, none⟩ = some (.int .i64 kind) /\ W.cell? ⟨w.heap.size, 1, none⟩ = some (.int .i64 term))) (by kernel_rfl) ?_ (fun hH => ?_)
 . exact S0
 refine ztk [0,1,3,4] ?_; repeat (refine ztn (h := ?_); try simp only [zX,zY])
 refine zte ?_
 refine zR1 2 (fun K hK => ?_)
 simp only [zG]
 go_simp
 refine (Qa1 kind _).mono ?_; rintro e w1 ⟨a1, c1, rfl, g1, o1⟩; have G1 : Below W0.heap.size W0 w1 := via0 g1 (Below.drew (Below.refl _ _)); have S1 := SS w1 G1
 refine hK.out _ _ S1 fun hH => ?_; clear hK K; try simp only [zX,zY]
 refine zR1 5 (fun K hK => ?_)
 simp only [zG]
 go_simp
 refine (Qa1 term _).mono ?_; rintro e w2 ⟨a2, c2, rfl, g2, o2⟩; have G2 : Below W0.heap.size W0 w2 := via0 g2 G1; have OX : Hid (w2.ownsRow W0.heap.size 5 1 (.slice a1 (numI kind).length c1) (numI kind).length (flat (numI kind))) := hidP (Qaq o1 g2); have AY : Hid (At w2 a2 (numI term)) := hidP (Qa6 o2).at; obtain ⟨a3, c3, w3, hr, own3, hg3⟩ := Qdu (c' := c2) G2.size OX.out AY.out (by have := Qbc kind; have := Qbc term; omega); obtain ⟨X2, hX2⟩ : ∃ X2, numI kind ++ numI term = X2 := ⟨_, rfl⟩; rw [hX2] at hr own3; have G3 : Below W0.heap.size W0 w3 := G2.grown hg3 G2.size (fun j e => Nat.le_of_not_lt fun q => Qay OX.out q e.symm); have J3 := hidP (Jo.mk G3 own3); have S2 := SS w2 G2; have S3 := SS w3 G3; clear own3 hg3
 refine hK.out _ _ S2 fun hH => ?_; clear hK K; try simp only [zX,zY]
 refine zR1 6 (fun K hK => ?_)
 simp only [zG]
 rw [if_pos (by rfl)]; refine Qag _ _ _ (by rfl) _ _ _ (by rfl) (by rfl) hr ?_
 refine hK.out _ _ S3 fun hH => ?_; clear hK K; try simp only [zX,zY]
 refine zt1 7 ?_; refine ztn (h := ?_); try simp only [zX,zY]
 refine zte ?_
 refine zdn ?_
 have L2 : Hid (X2.length <= 10) := by show _ <= _; rw [← hX2, List.length_append]; have := Qbc kind; have := Qbc term; omega
 have E2 := hidP hX2
 clear hX2 hr OX AY G1 G2 G3 g1 g2 o1 o2 S1 S2 S3 S0 SS
 have d2 : w3.cell? ⟨w.heap.size, 2, none⟩ = some (Value.int .i64 vote) := (P0.below J3.out.bl P0.lt).cell (i := 2) rfl
 have qb : w.heap.size < w3.heap.size := Nat.lt_of_lt_of_le P0.lt J3.out.bl.size
 go_wp2_with fail
 refine (Qa1 (vote + 1) _).mono ?_
 rintro e w4 ⟨a4, c4, rfl, g4, o4⟩
 obtain ⟨a5, c5, w5, hr, K5, _⟩ := J3.out.app (c1 := c4) g4 (Qa6 o4).at (by have := L2.out; have := Qbc (vote + 1); omega)
 obtain ⟨X3, hX3⟩ : ∃ X3, X2 ++ numI (vote + 1) = X3 := ⟨_, rfl⟩
 rw [hX3] at hr K5
 have L3 : Hid (X3.length <= 15) := by show _ <= _; rw [← hX3, List.length_append]; have := L2.out; have := Qbc (vote + 1); omega
 have E3 := hidP hX3
 have J5 := hidP K5
 clear hX3 K5 g4 o4 J3 d2 qb L2
 have d3 : w5.cell? ⟨w.heap.size, 3, none⟩ = some (Value.int .i64 prev) := (P0.below J5.out.bl P0.lt).cell (i := 3) rfl
 have qb : w.heap.size < w5.heap.size := Nat.lt_of_lt_of_le P0.lt J5.out.bl.size
 go_wp2_with (at_builtin; refine Qae rfl _ _ _ rfl _ _ _ rfl rfl hr ?_)
 refine (Qa1 prev _).mono ?_
 clear hr
 rintro e w6 ⟨a6, c6, rfl, g6, o6⟩
 obtain ⟨a7, c7, w7, hr, K7, _⟩ := J5.out.app (c1 := c6) g6 (Qa6 o6).at (by have := L3.out; have := Qbc prev; omega)
 obtain ⟨X4, hX4⟩ : ∃ X4, X3 ++ numI prev = X4 := ⟨_, rfl⟩
 rw [hX4] at hr K7
 have L4 : Hid (X4.length <= 20) := by show _ <= _; rw [← hX4, List.length_append]; have := L3.out; have := Qbc prev; omega
 have E4 := hidP hX4
 have J7 := hidP K7
 clear hX4 K7 g6 o6 J5 d3 qb L3
 have d4 : w7.cell? ⟨w.heap.size, 4, none⟩ = some (Value.slice A l.length cap) := (P0.below J7.out.bl P0.lt).cell (i := 4) rfl
 have qb : w.heap.size < w7.heap.size := Nat.lt_of_lt_of_le P0.lt J7.out.bl.size
 go_wp2_with (at_builtin; refine Qae rfl _ _ _ rfl _ _ _ rfl rfl hr ?_)
 refine (Qa1 (l.length : Int) _).mono ?_
 clear hr
 rintro e w8 ⟨a8, c8, rfl, g8, o8⟩
 obtain ⟨a9, c9, w9, hr, K9, _⟩ := J7.out.app (c1 := c8) g8 (Qa6 o8).at (by have := L4.out; have := Qbc (l.length : Int); omega)
 obtain ⟨X5, hX5⟩ : ∃ X5, X4 ++ numI (l.length : Int) = X5 := ⟨_, rfl⟩
 rw [hX5] at hr K9
 have L5 : Hid (X5.length <= 25) := by show _ <= _; rw [← hX5, List.length_append]; have := L4.out; have := Qbc (l.length : Int); omega
 have E5 := hidP hX5
 have J9 := hidP K9
 clear hX5 K9 g8 o8 J7 d4 qb L4
 go_wp2_with (at_builtin; refine Qae rfl _ _ _ rfl _ _ _ rfl rfl hr ?_)
 clear hr
 go_loopw [3, 4] (fun v i W => ∃ (n : Nat) (a : Option Addr) (c : Nat) (xs : List UInt8), i = .int .i64 (n : Int) /\ v = .slice a (List.length xs) c /\ n <= l.length /\ Hid (Jo W0 W a c xs) /\ Hid (xs = X5 ++ (l.take n).flatMap enB)) (fun _ i _ => l.length - (intOf i).toNat)
 case atStart => exact ⟨0, a9, c9, X5, rfl, rfl, by omega, J9, by simp [Hid]⟩
 case round =>
  clear J9
  obtain ⟨n, a, c, xs, rfl, rfl, hn, J, EX⟩ := hrel
  have d4 : wr.cell? ⟨w.heap.size, 4, none⟩ = some (Value.slice A l.length cap) := (P0.below J.out.bl P0.lt).cell (i := 4) rfl
  have d5 : wr.cell? ⟨w.heap.size, 5, none⟩ = some (Value.string snap) := (P0.below J.out.bl P0.lt).cell (i := 5) rfl
  have qb : w.heap.size < wr.heap.size := Nat.lt_of_lt_of_le P0.lt J.out.bl.size
  by_cases hlt : n < l.length
  . obtain ⟨b, o, rfl, hbs, hIn⟩ : ∃ b o, A = some ⟨b, o, none⟩ /\ b < W0.heap.size /\ In W0 b o l := by
     rcases HA.out with h | h
     . subst h; simp at hlt
     . exact h
    obtain ⟨c0, c1, c2, c3, c4, c5, c6, c7, c8⟩ := (hIn.below hbs J.out.bl).getEn n hlt
    have hxok := HR.out l[n] (List.getElem_mem hlt)
    have hxf := HF.out l[n] (List.getElem_mem hlt)
    have hi0 : (0 : Int) <= (n : Int) := by omega
    have hi1 : (n : Int) < (l.length : Int) := by omega
    have hlx : Hid (xs.length <= 5000) := by
     show _ <= _
     rw [EX.out, List.length_append]
     have h1 := Qhv enB l n
     have h2 := Qc4 enB 105 l (fun x hx => enB_le (HE.out x hx))
     have := L5.out
     omega
    have EX2 : Hid (xs ++ (numI l[n].term ++ cmB l[n].who l[n].seq l[n].op l[n].a l[n].b l[n].c l[n].key l[n].text) = X5 ++ (l.take (n + 1)).flatMap enB) := by
     show _ = _
     rw [flat_take enB hlt, EX.out]
     simp [enB, List.append_assoc]
    have hcl := (hidP (cmB_le (HE.out l[n] (List.getElem_mem hlt)).cm))
    clear hIn
    generalize l[n] = x at *
    obtain ⟨term', who, seq, op, aa, bb, cc, key, text⟩ := x
    dsimp only at c0 c1 c2 c3 c4 c5 c6 c7 c8 EX2 hcl
    have hok : CmdOk.okB who seq op aa bb cc key text = true := hxok
    have hks : key.size <= 9223372036854775807 := hxf.1
    have hts : text.size <= 9223372036854775807 := hxf.2
    have pe := Blk.new wr 107 (Qft term' who seq op aa bb cc key text)
    have Hpe := hidP pe
    clear pe hxok hxf
    go_wp2_with fail
    refine (Qa1 term' _).mono ?_
    rintro e v1 ⟨a1, c1', rfl, g1, o1⟩
    have pe1 := Hpe.out.below g1 Hpe.out.lt
    have gg := via0 g1 (Qaf (Below.refl _ wr) _)
    obtain ⟨a2, c2', v2, hr, K2, kp⟩ := J.out.app (c1 := c1') gg (Qa6 o1).at (by have := hlx.out; have := Qbc term'; omega)
    have pe2 := kp _ _ _ (Nat.le_refl _) pe1
    obtain ⟨Y, hY⟩ : ∃ Y, xs ++ numI term' = Y := ⟨_, rfl⟩
    rw [hY] at hr K2
    have LY : Hid (Y.length <= 5010) := by show _ <= _; rw [← hY, List.length_append]; have := hlx.out; have := Qbc term'; omega
    have EY := hidP hY
    have J2 := hidP K2
    have f1 : v2.cell? ⟨wr.heap.size, 1, none⟩ = some (.int .i64 who) := pe2.cell (i := 1) rfl
    have f2 : v2.cell? ⟨wr.heap.size, 2, none⟩ = some (.int .i64 seq) := pe2.cell (i := 2) rfl
    have f3 : v2.cell? ⟨wr.heap.size, 3, none⟩ = some (.int .i64 op) := pe2.cell (i := 3) rfl
    have f4 : v2.cell? ⟨wr.heap.size, 4, none⟩ = some (.int .i64 aa) := pe2.cell (i := 4) rfl
    have f5 : v2.cell? ⟨wr.heap.size, 5, none⟩ = some (.int .i64 bb) := pe2.cell (i := 5) rfl
    have f6 : v2.cell? ⟨wr.heap.size, 6, none⟩ = some (.int .i64 cc) := pe2.cell (i := 6) rfl
    have f7 : v2.cell? ⟨wr.heap.size, 7, none⟩ = some (.string key) := pe2.cell (i := 7) rfl
    have f8 : v2.cell? ⟨wr.heap.size, 8, none⟩ = some (.string text) := pe2.cell (i := 8) rfl
    have qe := pe2.lt
    clear hY K2 kp gg g1 o1 pe1 pe2 Hpe J hlx c0 c1 c2 c3 c4 c5 c6 c7 c8 d4 d5 qb
    go_wp2_with (at_builtin; refine Qae rfl _ _ _ rfl _ _ _ rfl rfl hr ?_)
    refine (Qe6 who seq op aa bb cc key text hks hts _).mono ?_
    clear hr f1 f2 f3 f4 f5 f6 f7 f8 qe
    rintro e v3 ⟨a3, c3', rfl, g3, o3⟩
    have hO : cmO who seq op aa bb cc key text = cmB who seq op aa bb cc key text := by unfold cmO; rw [hok]; rfl
    rw [hO] at o3
    rw [hO]
    obtain ⟨a4, c4', v4, hr, K4, _⟩ := J2.out.app (c1 := c3') g3 (Qa6 o3).at (by have := LY.out; have := hcl.out; omega)
    have EZ : Hid (Y ++ cmB who seq op aa bb cc key text = X5 ++ (l.take (n + 1)).flatMap enB) := by
     show _ = _
     rw [← EY.out, ← EX2.out]
     simp [List.append_assoc]
    generalize cmB who seq op aa bb cc key text = M at *
    obtain ⟨Z, hZ⟩ : ∃ Z, Y ++ M = Z := ⟨_, rfl⟩
    rw [hZ] at hr K4 EZ
    have J4 := hidP K4
    clear hZ K4 g3 o3 J2 hO
    go_wp2_with (at_builtin; refine Qae rfl _ _ _ rfl _ _ _ rfl rfl hr ?_)
    exact ⟨⟨n + 1, a4, c4', Z, by go_num, rfl, by omega, J4, EZ⟩, by simp [intOf]; omega⟩
  . obtain rfl : n = l.length := by omega
    rw [List.take_length] at EX
    have hlx : Hid (xs.length <= 5000) := by
     show _ <= _
     rw [EX.out, List.length_append]
     have h2 := Qc4 enB 105 l (fun x hx => enB_le (HE.out x hx))
     have := L5.out
     omega
    go_wp2_with fail
    refine (Qbf snap (by omega) _).mono ?_
    rintro e v1 ⟨a1, c1', rfl, g1, o1⟩
    have hlT : Hid ((txtB snap).length <= 30005) := by show _ <= _; rw [Qbv]; have := Qcv (n := snap.size) (by omega); omega
    have EB : Hid (xs ++ txtB snap = Qfz kind term vote prev l snap) := by
     show _ = _
     rw [EX.out, ← E5.out, ← E4.out, ← E3.out, ← E2.out]
     simp [Qfz, Qbh, ensB, List.append_assoc]
    generalize txtB snap = T at *
    obtain ⟨a2, c2', v2, hr, K2, _⟩ := J.out.app (c1 := c1') g1 (Qa6 o1).at (by have := hlx.out; have := hlT.out; omega)
    generalize xs ++ T = Z at *
    have J2 := hidP K2
    clear K2 g1 o1 J d4 d5 qb
    go_wp2_with (at_builtin; refine Qae rfl _ _ _ rfl _ _ _ rfl rfl hr ?_)
    go_ret
    rw [← EB.out]
    exact ⟨a2, c2', rfl, via0' (B0.out) J2.out.bl, Qaw J2.out.own (Nat.le_of_lt P0.lt)⟩
def Qd1 (kind term vote prev : Int) (l : List En) (snap : ByteArray) : List UInt8 := if Qhg kind term vote prev l snap = true then Qgg (Qfz kind term vote prev l snap) else []
theorem bodyB_le {kind term vote prev : Int} {l : List En} {snap : ByteArray} (h : NtR kind term vote prev l snap) : (Qfz kind term vote prev l snap).length <= 40000 := by
 have h1 := Qb3 [kind, term, vote + 1, prev]
 have h2 := ensB_le h.en
 have h3 := Qcv (n := snap.size) (by have := h.s; omega)
 have := h.s
 have := h.len
 simp only [Qfz, List.length_append, Qbv, List.length_cons, List.length_nil] at h1 ⊢
 omega
theorem frameB_le {L : List UInt8} (h : L.length <= 40000) : (Qgg L).length <= 41000 := by
 have h1 := Qcv (n := L.length) (by omega)
 simp only [Qgg, List.length_append, Qc7]
 omega
theorem noteO_le (kind term vote prev : Int) (l : List En) (snap : ByteArray) : (Qd1 kind term vote prev l snap).length <= 41000 := by
 unfold Qd1
 split
 . exact frameB_le (bodyB_le (Qfp ‹_›))
 . simp
theorem Qew (kind term vote prev : Int) (snap : ByteArray) (hs : snap.size <= 9223372036854775807) (A : Option Addr) (cap : Nat) (l : List En) (hl : l.length <= 3000000) (hr : ∀ x ∈ l, x.fit) (w : World) (hA : At w A l) :
 Calls Tryz.prog 38 #[.agg (Qbe kind term vote prev A l.length cap snap)] w fun e w' => ∃ a' c', e = .returned (.slice a' (Qd1 kind term vote prev l snap).length c') /\ Below w.heap.size w w' /\ w'.ownsRow w.heap.size 5 1 (.slice a' (Qd1 kind term vote prev l snap).length c') (Qd1 kind term vote prev l snap).length (flat (Qd1 kind term vote prev l snap)) := by
 have Hp := hidP (Blk.new w 72 (Qbe kind term vote prev A l.length cap snap))
 have B0 : Below w.heap.size w (w.alloc (.cells (Qbe kind term vote prev A l.length cap snap) 72)) := Qaf (Below.refl _ w) _
 have HA := hidP hA
 have HF := hidP hr
 clear hA hr
 go_enter Tryz.func38, Tryz.ntmps38
 go_wp2_with fail
 refine (Qf1 kind term vote prev snap hs A cap l hl HF.out _ (HA.out.below B0)).mono ?_
 rintro e w1 ⟨rfl, g1⟩
 have p1 := Hp.out.below g1 Hp.out.lt
 have B1 := via0 g1 B0
 have q1 := p1.lt
 cases hok : Qhg kind term vote prev l snap with
 | false =>
  have hO : Hid (Qd1 kind term vote prev l snap = []) := by show _ = _; unfold Qd1; rw [hok]; rfl
  clear g1 p1
  go_wp2
  go_ret
  rw [hO.out]
  exact ⟨_, _, rfl, Qaf B1 _, ⟨by simp [flat], .inr ⟨w1.heap.size, 0, #[], rfl, B1.size, Blk.new w1 5 #[], Nat.le_refl _, by simp [maxLen], rfl, rfl⟩⟩⟩
 | true =>
  have hO : Hid (Qd1 kind term vote prev l snap = Qgg (Qfz kind term vote prev l snap)) := by show _ = _; unfold Qd1; rw [hok]; rfl
  have hR := hidP (Qfp hok)
  have hbl := hidP (bodyB_le hR.out)
  obtain ⟨d0, d1, d2, d3, d4, d5⟩ := p1.row6n
  clear g1 p1
  go_wp2_with fail
  refine (l9Body_any kind term vote prev snap A cap l hR.out HF.out _ (HA.out.below B1)).mono ?_
  rintro e w2 ⟨a2, c2, rfl, g2, o2⟩
  have B2 := hidP (via0 g2 B1)
  have hat2 := hidP (Qa6 o2).at
  generalize Qfz kind term vote prev l snap = L at *
  clear g2 o2 hR d0 d1 d2 d3 d4 d5 q1
  go_wp2_with fail
  refine (Qa1 (L.length : Int) _).mono ?_
  rintro e w3 ⟨a3, c3, rfl, g3, o3⟩
  have J3 : Jo w2 w3 a3 c3 (numI (L.length : Int)) := ⟨g3, o3⟩
  obtain ⟨a4, c4, w4, hr4, K4, _⟩ := J3.app (c1 := c2) (Below.refl _ _) (hat2.out.below g3) (by have := Qbc (L.length : Int); have := hbl.out; omega)
  have EX : Hid (numI (L.length : Int) ++ L ++ sumB 4 (sumN L) = Qgg L) := by show _ = _; rw [Qef (by have := hbl.out; omega)]; simp [Qgg, List.append_assoc]
  have LX : Hid ((numI (L.length : Int) ++ L).length <= 41000) := by show _ <= _; rw [List.length_append]; have := Qbc (L.length : Int); have := hbl.out; omega
  generalize numI (L.length : Int) ++ L = X at *
  have J4 := hidP K4
  have hat4 := hidP (hat2.out.below J4.out.bl)
  clear K4 J3 g3 o3
  go_wp2_with (at_builtin; refine Qae rfl _ _ _ rfl _ _ _ rfl rfl hr4 ?_)
  refine (l9Sum_any a2 c2 L (by have := hbl.out; omega) _ hat4.out).mono ?_
  rintro e w5 ⟨rfl, g5, hy5⟩
  obtain ⟨a6, c6, w6, hr6, K6, _⟩ := J4.out.app (c1 := 4) g5 hy5 (by have := LX.out; rw [Qc7]; omega)
  rw [Qc7] at hr6
  generalize X ++ sumB 4 (sumN L) = Y at *
  have J6 := hidP K6
  clear K6 J4 g5 hy5 hr4
  go_wp2_with (at_builtin; refine Qae rfl _ _ _ rfl _ _ _ rfl rfl hr6 ?_)
  go_ret
  rw [hO.out, ← EX.out]
  exact ⟨a6, c6, rfl, via0 J6.out.bl B2.out, Qaw J6.out.own B2.out.size⟩
end Go.Proofs.YtlniljigeemnoaaGreat.Gen
