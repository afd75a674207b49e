/-
  What the program's WorldOk asks of each node, message, command and what was heard. No condition but the sizes that every text and number has.
-/
import Derived.Test.YtkmkldjipihceaaGreatPeI5
set_option linter.unusedVariables false
set_option linter.unusedSimpArgs false
set_option maxRecDepth 100000
set_option maxHeartbeats 8000000
set_option maxRecDepth 100000
set_option maxHeartbeats 8000000
namespace Go.Proofs.YtkmkldjipihceaaGreat.Gen
open ChangeShapes WideShapes ChangeAt RowKit Joins Deep Base
theorem Qcs {P : Program} {ops : Array Oper} {rest : List Oper} {op : Oper} {a : Act} {w : World} {Q : Go.Exit -> Act -> World -> Prop} (hw : Region.wanted op (yielded ops a.tmps) = true) (ty : TypeId) (x : Operand) (ho : op.op = .load ty x) {b : Nat} (hx : a.eval x = .pointer (some ⟨b, 0, none⟩)) {t : TypeId} {vs : Array Value} (p : Blk w b t vs) {fs : Array Field} (hu : P.underlying ty = some (.struct fs)) (hi : (P.info? ty).map (·.size) = some vs.size)
 (h : wpList P ops Q rest (a.put op.dst (.agg vs)) w) : wpList P ops Q (op :: rest) a w :=
 wpList_step fun K hK => by
  rw [if_pos hw]
  unfold Oper.wp execOp
  simp only [ho, hx, Instr.loadAt, Instr.sureAddr, Sem.run_bind, Sem.run_pure, Result.andThen_ok, run_loadVar_row w b t ty vs (0, 0) (.struct fs) p hu rfl hi]
  exact hK _ _ h
theorem isSaid_any (x : Co) (w : World) : Calls Tryz.prog 95 #[.agg (Qan x.who x.seq x.op x.a x.b x.c x.key x.text)] w fun e w' => e = .returned (.bool (!(Qd1 x))) /\ Below w.heap.size w w' := by
 have hz : ∀ W : World, (Op.equalIn 10000 115 (.agg (Qan x.who x.seq x.op x.a x.b x.c x.key x.text)) (.agg Qc5)).run Tryz.prog W = .ok (Qd1 x) W := fun W => eqCz _ W
 generalize Qd1 x = zb at hz
 go_enter Tryz.func95, Tryz.ntmps95
 go_wp2
 go_ret
 exact ⟨rfl, by repeat (first | exact Below.refl _ _ | assumption | refine via0 (by assumption) ?_ | refine Below.drew ?_ | refine Qab ?_ _)⟩
theorem Qet (x : He) (hx : x.fit) (w : World) : Calls Tryz.prog 58 #[.agg (Qao x.who x.seq x.code x.n x.key x.text x.frm x.at_)] w fun e w' => e = .returned (.bool (Qbp x)) /\ Below w.heap.size w w' := by
 have E1 : Hid (∀ W : World, Calls Tryz.prog 96 #[.int .i64 x.who] W fun e w' => e = .returned (.bool (inB x.who 0 3)) /\ w' = W) := fun W => Qc1 _ W
 have E2 : Hid (∀ W : World, Calls Tryz.prog 89 (Qa4 x.seq 1 100000) W fun e w' => e = .returned (.bool (inB x.seq 1 100000)) /\ w' = W) := fun W => within_any _ _ _ W
 have E3 : Hid (∀ W : World, Calls Tryz.prog 56 #[.int .i64 x.frm] W fun e w' => e = .returned (.bool (inB x.frm 0 300)) /\ w' = W) := fun W => Qbj _ W
 have E4 : Hid (∀ W : World, Calls Tryz.prog 56 #[.int .i64 x.at_] W fun e w' => e = .returned (.bool (inB x.at_ 0 300)) /\ w' = W) := fun W => Qbj _ W
 have E5 : Hid (∀ W : World, Calls Tryz.prog 97 #[.agg (Qcr x.code x.n x.key x.text)] W fun e w' => e = .returned (.bool (ansB x.code x.n x.key x.text)) /\ Below W.heap.size W w') := fun W => Qda _ _ _ _ hx.1 hx.2 W
 unfold Qbp
 clear hx
 generalize inB x.who 0 3 = b1 at E1 ⊢
 generalize inB x.seq 1 100000 = b2 at E2 ⊢
 generalize inB x.frm 0 300 = b3 at E3 ⊢
 generalize inB x.at_ 0 300 = b4 at E4 ⊢
 generalize ansB x.code x.n x.key x.text = b5 at E5 ⊢
 go_enter Tryz.func58, Tryz.ntmps58
 go_wp2_with fail
 refine (E1.out _).mono ?_
 rintro e w1 ⟨rfl, hw⟩
 subst w1
 cases b1
 . go_wp2
   go_ret
   exact ⟨by first | rfl | simp, by repeat (first | exact Below.refl _ _ | assumption | refine via0 (by assumption) ?_ | refine Below.drew ?_ | refine Qab ?_ _)⟩
 go_wp2_with fail
 refine (E2.out _).mono ?_
 rintro e w2 ⟨rfl, hw⟩
 subst w2
 cases b2
 . go_wp2
   go_ret
   exact ⟨by first | rfl | simp, by repeat (first | exact Below.refl _ _ | assumption | refine via0 (by assumption) ?_ | refine Below.drew ?_ | refine Qab ?_ _)⟩
 go_wp2_with fail
 refine (E3.out _).mono ?_
 rintro e w3 ⟨rfl, hw⟩
 subst w3
 cases b3
 . go_wp2
   go_ret
   exact ⟨by first | rfl | simp, by repeat (first | exact Below.refl _ _ | assumption | refine via0 (by assumption) ?_ | refine Below.drew ?_ | refine Qab ?_ _)⟩
 go_wp2_with fail
 refine (E4.out _).mono ?_
 rintro e w4 ⟨rfl, hw⟩
 subst w4
 cases b4
 . go_wp2
   go_ret
   exact ⟨by first | rfl | simp, by repeat (first | exact Below.refl _ _ | assumption | refine via0 (by assumption) ?_ | refine Below.drew ?_ | refine Qab ?_ _)⟩
 go_wp2_with fail
 refine (E5.out _).mono ?_
 rintro e w5 ⟨rfl, g5⟩
 go_wp2
 go_ret
 exact ⟨by first | rfl | simp, via0 g5 (by repeat (first | exact Below.refl _ _ | assumption | refine via0 (by assumption) ?_ | refine Below.drew ?_ | refine Qab ?_ _))⟩
theorem Qf9 (A : Option Addr) (cap : Nat) (l : List He) (hl : l.length <= 1048576) (hr : ∀ x ∈ l, x.fit) (w : World) (hA : At w A l) :
 Calls Tryz.prog 57 #[.slice A l.length cap, .func (.func 58) #[] #[]] w fun e w' => e = .returned (.bool (l.all (Qbp))) /\ Below w.heap.size w w' := by
 have HA := hidP hA
 have HX : Hid (∀ x ∈ l, ∀ W : World, Below w.heap.size w W -> Calls Tryz.prog 58 #[.agg (Qao x.who x.seq x.code x.n x.key x.text x.frm x.at_)] W fun e w' => e = .returned (.bool (Qbp x)) /\ Below W.heap.size W w') := fun x hx W g => Qet x (hr x hx) W
 clear hA hr
 go_enter Tryz.func57, Tryz.ntmps57
 go_wp2
 go_loopw [9] (fun i w' => ∃ (n : Nat), i = .int .i64 (n : Int) /\ n <= l.length /\ Hid (l.all (Qbp) = (l.drop n).all (Qbp)) /\ Below w.heap.size w w') (fun i _ => l.length - (intOf i).toNat)
 case atStart => exact ⟨0, rfl, by omega, rfl, Below.refl _ _⟩
 case round =>
  obtain ⟨n, rfl, hn, hz, hbl⟩ := hrel
  by_cases hlt : n < l.length
  . obtain ⟨b, o, rfl, hbs, hIn⟩ : ∃ b o, A = some ⟨b, o, none⟩ /\ b < w.heap.size /\ In w b o l := by
     rcases HA.out with h | h
     . subst h; simp at hlt
     . exact h
    obtain ⟨c0, c1, c2, c3, c4, c5, c6, c7⟩ := (hIn.below hbs hbl).getHe n hlt
    have hd := hidP (hz.out.trans (Qb2 (Qbp) l n hlt))
    have hi0 : (0 : Int) <= (n : Int) := by omega
    have hi1 : (n : Int) < (l.length : Int) := by omega
    have HC := hidP (HX.out l[n] (List.getElem_mem hlt))
    clear hz
    generalize hb : (Qbp) l[n] = bb at hd HC
    clear hb
    cases bb
    . go_wp2_with fail
      refine (HC.out _ (Qab hbl _)).mono ?_
      rintro e w1 ⟨rfl, g1⟩
      go_wp2
      go_ret
      exact ⟨by rw [hd.out]; rfl, via0 g1 (Qab hbl _)⟩
    . go_wp2_with fail
      refine (HC.out _ (Qab hbl _)).mono ?_
      rintro e w1 ⟨rfl, g1⟩
      go_wp2
      exact ⟨⟨n + 1, by go_num, by omega, by show _ = _; rw [hd.out]; rfl, via0 g1 (Qab hbl _)⟩, by simp [intOf]; omega⟩
  . have e : l.drop n = [] := List.drop_of_length_le (by omega)
    go_wp2
    go_ret
    have h := hz.out
    rw [e] at h
    exact ⟨by rw [h]; rfl, hbl⟩
theorem Qik (A : Option Addr) (cap : Nat) (l : List Co) (hl : l.length <= 1048576) (hr : ∀ x ∈ l, x.fit) (w : World) (hA : At w A l) :
 Calls Tryz.prog 59 #[.slice A l.length cap, .func (.func 60) #[] #[]] w fun e w' => e = .returned (.bool (l.all (okCo))) /\ Below w.heap.size w w' := by
 have HA := hidP hA
 have HX : Hid (∀ x ∈ l, ∀ W : World, Below w.heap.size w W -> Calls Tryz.prog 60 #[.agg (Qan x.who x.seq x.op x.a x.b x.c x.key x.text)] W fun e w' => e = .returned (.bool (okCo x)) /\ Below W.heap.size W w') := fun x hx W g => CmdOk.impl_any _ _ _ _ _ _ _ _ (hr x hx).1 (hr x hx).2 W
 clear hA hr
 go_enter Tryz.func59, Tryz.ntmps59
 go_wp2
 go_loopw [9] (fun i w' => ∃ (n : Nat), i = .int .i64 (n : Int) /\ n <= l.length /\ Hid (l.all (okCo) = (l.drop n).all (okCo)) /\ Below w.heap.size w w') (fun i _ => l.length - (intOf i).toNat)
 case atStart => exact ⟨0, rfl, by omega, rfl, Below.refl _ _⟩
 case round =>
  obtain ⟨n, rfl, hn, hz, hbl⟩ := hrel
  by_cases hlt : n < l.length
  . obtain ⟨b, o, rfl, hbs, hIn⟩ : ∃ b o, A = some ⟨b, o, none⟩ /\ b < w.heap.size /\ In w b o l := by
     rcases HA.out with h | h
     . subst h; simp at hlt
     . exact h
    obtain ⟨c0, c1, c2, c3, c4, c5, c6, c7⟩ := (hIn.below hbs hbl).getCo n hlt
    have hd := hidP (hz.out.trans (Qb2 (okCo) l n hlt))
    have hi0 : (0 : Int) <= (n : Int) := by omega
    have hi1 : (n : Int) < (l.length : Int) := by omega
    have HC := hidP (HX.out l[n] (List.getElem_mem hlt))
    clear hz
    generalize hb : (okCo) l[n] = bb at hd HC
    clear hb
    cases bb
    . go_wp2_with fail
      refine (HC.out _ (Qab hbl _)).mono ?_
      rintro e w1 ⟨rfl, g1⟩
      go_wp2
      go_ret
      exact ⟨by rw [hd.out]; rfl, via0 g1 (Qab hbl _)⟩
    . go_wp2_with fail
      refine (HC.out _ (Qab hbl _)).mono ?_
      rintro e w1 ⟨rfl, g1⟩
      go_wp2
      exact ⟨⟨n + 1, by go_num, by omega, by show _ = _; rw [hd.out]; rfl, via0 g1 (Qab hbl _)⟩, by simp [intOf]; omega⟩
  . have e : l.drop n = [] := List.drop_of_length_le (by omega)
    go_wp2
    go_ret
    have h := hz.out
    rw [e] at h
    exact ⟨by rw [h]; rfl, hbl⟩
theorem rpW_any (x : RpC) (size : Int) (hm : (∀ y ∈ x.l, y.fit) /\ x.snap.size <= 9223372036854775807) (hl : x.l.length <= 1048576) (Bw : Nat) (w : World) (hw : Bw < w.heap.size) (hB : w.cell? ⟨Bw, 4, none⟩ = some (.int .i64 size)) (hA : At w x.A x.l) :
 Calls Tryz.prog 52 #[.agg (Qaf x.kind x.frm x.too x.term x.index x.iterm x.commit x.A x.l.length x.cap x.ok x.snap), .pointer (some ⟨Bw, 0, none⟩)] w fun e w' => e = .returned (.bool (rpB size x)) /\ Below w.heap.size w w' := by
 have HC : Hid (∀ W : World, Below w.heap.size w W -> Calls Tryz.prog 53 #[.agg (Qaf x.kind x.frm x.too x.term x.index x.iterm x.commit x.A x.l.length x.cap x.ok x.snap), .int .i64 size] W fun e w' => e = .returned (.bool (rpB size x)) /\ Below W.heap.size W w') := fun W g => Qdk size x.kind x.frm x.too x.term x.index x.iterm x.commit x.ok x.snap hm.2 x.A x.cap x.l (by omega) hm.1 W (hA.below g)
 have g0 : Below w.heap.size w (w.alloc (.cells (Qaf x.kind x.frm x.too x.term x.index x.iterm x.commit x.A x.l.length x.cap x.ok x.snap) 113)) := Qab (Below.refl _ _) _
 have hB' := ((Qax g0).1 _ _ hw).trans hB
 clear hm hA hB
 go_enter Tryz.func52, Tryz.ntmps52
 go_wp2_with fail
 refine (HC.out _ g0).mono ?_
 rintro e w1 ⟨rfl, g1⟩
 go_wp2
 go_ret
 exact ⟨rfl, via0 g1 g0⟩
theorem Qif (A : Option Addr) (cap : Nat) (l : List RpC) (hl : l.length <= 1048576) (size : Int) (hm : ∀ x ∈ l, (∀ y ∈ x.l, y.fit) /\ x.snap.size <= 9223372036854775807) (hll : ∀ x ∈ l, x.l.length <= 1048576) (w : World) (hE : EachP w l) (Bw : Nat) (hw : Bw < w.heap.size) (hB : w.cell? ⟨Bw, 4, none⟩ = some (.int .i64 size)) (hA : At w A l) :
 Calls Tryz.prog 51 #[.slice A l.length cap, .func (.func 52) #[] #[.pointer (some ⟨Bw, 0, none⟩)]] w fun e w' => e = .returned (.bool (l.all (rpB size))) /\ Below w.heap.size w w' := by
 have HA := hidP hA
 have HX : Hid (∀ x ∈ l, ∀ W : World, Below w.heap.size w W -> Calls Tryz.prog 52 #[.agg (Qaf x.kind x.frm x.too x.term x.index x.iterm x.commit x.A x.l.length x.cap x.ok x.snap), .pointer (some ⟨Bw, 0, none⟩)] W fun e w' => e = .returned (.bool (rpB size x)) /\ Below W.heap.size W w') := fun x hx W g => rpW_any x size (hm x hx) (hll x hx) Bw W (Nat.lt_of_lt_of_le hw g.size) (((Qax g).1 _ _ hw).trans hB) ((hE x hx).below g)
 clear hA hm hll hE hw hB
 go_enter Tryz.func51, Tryz.ntmps51
 go_wp2
 go_loopw [9] (fun i w' => ∃ (n : Nat), i = .int .i64 (n : Int) /\ n <= l.length /\ Hid (l.all (rpB size) = (l.drop n).all (rpB size)) /\ Below w.heap.size w w') (fun i _ => l.length - (intOf i).toNat)
 case atStart => exact ⟨0, rfl, by omega, rfl, Below.refl _ _⟩
 case round =>
  obtain ⟨n, rfl, hn, hz, hbl⟩ := hrel
  by_cases hlt : n < l.length
  . obtain ⟨b, o, rfl, hbs, hIn⟩ : ∃ b o, A = some ⟨b, o, none⟩ /\ b < w.heap.size /\ In w b o l := by
     rcases HA.out with h | h
     . subst h; simp at hlt
     . exact h
    obtain ⟨c0, c1, c2, c3, c4, c5, c6, c7, c8, c9⟩ := (hIn.below hbs hbl).getRpC n hlt
    have hd := hidP (hz.out.trans (Qb2 (rpB size) l n hlt))
    have hi0 : (0 : Int) <= (n : Int) := by omega
    have hi1 : (n : Int) < (l.length : Int) := by omega
    have HC := hidP (HX.out l[n] (List.getElem_mem hlt))
    clear hz
    generalize hb : (rpB size) l[n] = bb at hd HC
    clear hb
    cases bb
    . go_wp2_with fail
      refine (HC.out _ (Qab hbl _)).mono ?_
      rintro e w1 ⟨rfl, g1⟩
      go_wp2
      go_ret
      exact ⟨by rw [hd.out]; rfl, via0 g1 (Qab hbl _)⟩
    . go_wp2_with fail
      refine (HC.out _ (Qab hbl _)).mono ?_
      rintro e w1 ⟨rfl, g1⟩
      go_wp2
      exact ⟨⟨n + 1, by go_num, by omega, by show _ = _; rw [hd.out]; rfl, via0 g1 (Qab hbl _)⟩, by simp [intOf]; omega⟩
  . have e : l.drop n = [] := List.drop_of_length_le (by omega)
    go_wp2
    go_ret
    have h := hz.out
    rw [e] at h
    exact ⟨by rw [h]; rfl, hbl⟩
theorem Qes (p : WC) (h : WAsk p) (w : World) (hp : WAt w p) :
 Calls Tryz.prog 50 #[.agg (Qal p)] w fun e w' => e = .returned (.bool (Qcj p)) /\ Below w.heap.size w w' := by
 obtain ⟨ro, wi, le, ke, size, nA, nc, ns, mA, mc, ms, sA, sc, ss, fA, fc, fs, hA, hc, hs, dA, dc, ds⟩ := p
 have HN := hidP (And.intro hp.na hp.ne)
 have HK := hidP h.n
 have hnl := h.f.nl
 have HF : Hid (Qcj (⟨ro, wi, le, ke, size, nA, nc, ns, mA, mc, ms, sA, sc, ss, fA, fc, fs, hA, hc, hs, dA, dc, ds⟩ : WC) = (Qbt (fun x => okQ ro wi le ke size x) 0 ns && decide ((ns.length : Int) = size))) := rfl
 simp only at HN HK hnl
 clear hp h
 have P0 := hidP (Blk.new w 39 (Qal (⟨ro, wi, le, ke, size, nA, nc, ns, mA, mc, ms, sA, sc, ss, fA, fc, fs, hA, hc, hs, dA, dc, ds⟩ : WC)))
 have B0 := hidP (show Below w.heap.size w (w.alloc (.cells (Qal (⟨ro, wi, le, ke, size, nA, nc, ns, mA, mc, ms, sA, sc, ss, fA, fc, fs, hA, hc, hs, dA, dc, ds⟩ : WC)) 39)) from Qab (Below.refl _ _) _)
 generalize Qcj (⟨ro, wi, le, ke, size, nA, nc, ns, mA, mc, ms, sA, sc, ss, fA, fc, fs, hA, hc, hs, dA, dc, ds⟩ : WC) = nb at HF ⊢
 have x5 := P0.out.cell (i := 5) (v := .slice nA ns.length nc) rfl
 have q0 := P0.out.lt
 go_enter Tryz.func50, Tryz.ntmps50
 go_wp2
 clear x5 q0
 go_loopw [8] (fun i W => ∃ n : Nat, i = .int .i64 (n : Int) /\ n <= ns.length /\ Hid (Below w.heap.size w W) /\ Hid (Blk W w.heap.size 39 (Qal (⟨ro, wi, le, ke, size, nA, nc, ns, mA, mc, ms, sA, sc, ss, fA, fc, fs, hA, hc, hs, dA, dc, ds⟩ : WC))) /\ Hid (Qbt (fun x => okQ ro wi le ke size x) 0 ns = Qbt (fun x => okQ ro wi le ke size x) (n : Int) (ns.drop n))) (fun i _ => ns.length - (intOf i).toNat)
 case atStart => exact ⟨0, rfl, by omega, B0, P0, rfl⟩
 case round =>
  clear B0 P0
  obtain ⟨n, rfl, hn, hB, hX, hD⟩ := hrel
  by_cases hlt : n < ns.length
  . obtain ⟨b, o, rfl, hbs, hIn⟩ : ∃ b o, nA = some ⟨b, o, none⟩ /\ b < w.heap.size /\ In w b o ns := by
     rcases HN.out.1 with h | h
     . subst h; simp at hlt
     . exact h
    have HR := hidP ((hIn.below hbs hB.out).el n hlt)
    have hDD := hidP (hD.out.trans (Qfm _ ns n hlt))
    have hi0 : (0 : Int) <= (n : Int) := by omega
    have hi1 : (n : Int) < (ns.length : Int) := by omega
    have EP : Hid (∀ W : World, Below w.heap.size w W -> Calls Tryz.prog 90 #[.agg (Qag ro wi le ke), .agg (Qaw ns[n]), .int .i64 size] W fun e w' => e = .returned (.bool (okQ ro wi le ke size ns[n])) /\ Below W.heap.size W w') := fun W g => implOk_any (HK.out _ (List.getElem_mem hlt)) _ _ _ _ _ W ((HN.out.2 _ (List.getElem_mem hlt)).below g)
    clear hD
    go_upto_region 3 with fail
    refine wp_region_lit ?_
    iterate 6 go_step
    refine wpList_load_mid rfl 67 _ rfl b (o + n * 26) rfl (Cel.cs ns[n]) _ HR.out Tryz.underlying67 rfl Qcu ?_
    iterate 6 go_step
    refine Qa2 rfl 67 _ _ rfl (g := wr.heap.size) (cells := Qaw ns[n]) rfl rfl (Blk.new wr 67 Qak) Qcu rfl (Qb3 ns[n]) ?_
    refine wpList_nil ?_
    rw [World.setRow_alloc_new]
    have X1 := hidP (Blk.new wr 67 (Qaw ns[n]))
    have B1 := hidP (show Below w.heap.size w (wr.alloc (.cells (Qaw ns[n]) 67)) from Qab hB.out _)
    have X0 := hidP (hX.out.alloc (.cells (Qaw ns[n]) 67))
    have c0 := X1.out.cell (i := 0) (v := .int .i64 ns[n].id) rfl
    have x0 := X0.out.cell (i := 0) (v := .int .i64 ro) rfl
    have x1 := X0.out.cell (i := 1) (v := .int .i64 wi) rfl
    have x2 := X0.out.cell (i := 2) (v := .int .i64 le) rfl
    have x3 := X0.out.cell (i := 3) (v := .int .i64 ke) rfl
    have x4 := X0.out.cell (i := 4) (v := .int .i64 size) rfl
    have q0 := X0.out.lt
    have q1 := X1.out.lt
    generalize okQ ro wi le ke size ns[n] = ob at EP hDD
    by_cases hid : ns[n].id = (n : Int)
    case neg =>
     have hf : Hid (nb = false) := by show _ = _; rw [HF.out, hDD.out, decide_eq_false hid]; simp
     have hbq : (ns[n].id != (n : Int)) = true := bne_iff_ne.2 hid
     go_wp2
     go_ret
     exact ⟨by rw [hf.out]; rfl, B1.out⟩
    replace hDD := hidP (hDD.out.trans (by rw [decide_eq_true hid]))
    have hbq : (ns[n].id != (n : Int)) = false := by simp [hid]
    go_upto_region 4 with fail
    refine wp_region_lit ?_
    iterate 19 go_step
    refine Qcs (by rfl) 67 _ rfl (b := wr.heap.size) rfl X1.out Tryz.underlying67 Qcu ?_
    go_wp2_with fail
    refine (EP.out _ B1.out).mono ?_
    rintro e w6 ⟨rfl, g6⟩
    have BB := hidP (via0 g6 B1.out)
    have XX := hidP (X0.out.below g6 X0.out.lt)
    clear g6 hbq hid
    cases ob
    . have hf : Hid (nb = false) := by show _ = _; rw [HF.out, hDD.out]; simp
      go_wp2
      go_ret
      exact ⟨by rw [hf.out]; rfl, BB.out⟩
    . go_wp2
      exact ⟨⟨n + 1, by go_num, by omega, BB, XX, hidP (by have := hDD.out; simpa using this)⟩, by simp [intOf]; omega⟩
  . have hS := hidP (show nb = decide ((ns.length : Int) = size) by rw [HF.out, hD.out, List.drop_of_length_le (by omega)]; rfl)
    have x4 := hX.out.cell (i := 4) (v := .int .i64 size) rfl
    have x5 := hX.out.cell (i := 5) (v := .slice nA ns.length nc) rfl
    have q0 := hX.out.lt
    go_wp2
    go_ret
    exact ⟨by rw [hS.out]; rfl, hB.out⟩
theorem Qfx (p : WC) (h : WAsk p) (w : World) (hp : WAt w p) :
 Calls Tryz.prog 54 #[.agg (Qal p)] w fun e w' => e = .returned (.bool (Qcw p)) /\ Below w.heap.size w w' := by
 obtain ⟨ro, wi, le, ke, size, nA, nc, ns, mA, mc, ms, sA, sc, ss, fA, fc, fs, hA, hc, hs, dA, dc, ds⟩ := p
 have HN := hidP hp.sa
 have HK := hidP h.s
 have hnl := h.f.sl
 have HF : Hid (Qcw (⟨ro, wi, le, ke, size, nA, nc, ns, mA, mc, ms, sA, sc, ss, fA, fc, fs, hA, hc, hs, dA, dc, ds⟩ : WC) = (Qc6 0 ss && decide ((ss.length : Int) = 4))) := rfl
 simp only at HN HK hnl
 clear hp h
 have P0 := hidP (Blk.new w 39 (Qal (⟨ro, wi, le, ke, size, nA, nc, ns, mA, mc, ms, sA, sc, ss, fA, fc, fs, hA, hc, hs, dA, dc, ds⟩ : WC)))
 have B0 := hidP (show Below w.heap.size w (w.alloc (.cells (Qal (⟨ro, wi, le, ke, size, nA, nc, ns, mA, mc, ms, sA, sc, ss, fA, fc, fs, hA, hc, hs, dA, dc, ds⟩ : WC)) 39)) from Qab (Below.refl _ _) _)
 generalize Qcw (⟨ro, wi, le, ke, size, nA, nc, ns, mA, mc, ms, sA, sc, ss, fA, fc, fs, hA, hc, hs, dA, dc, ds⟩ : WC) = nb at HF ⊢
 have x7 := P0.out.cell (i := 7) (v := .slice sA ss.length sc) rfl
 have q0 := P0.out.lt
 go_enter Tryz.func54, Tryz.ntmps54
 go_wp2
 clear x7 q0
 go_loopw [8] (fun i W => ∃ n : Nat, i = .int .i64 (n : Int) /\ n <= ss.length /\ Hid (Below w.heap.size w W) /\ Hid (Blk W w.heap.size 39 (Qal (⟨ro, wi, le, ke, size, nA, nc, ns, mA, mc, ms, sA, sc, ss, fA, fc, fs, hA, hc, hs, dA, dc, ds⟩ : WC))) /\ Hid (Qc6 0 ss = Qc6 (n : Int) (ss.drop n))) (fun i _ => ss.length - (intOf i).toNat)
 case atStart => exact ⟨0, rfl, by omega, B0, P0, rfl⟩
 case round =>
  clear B0 P0
  obtain ⟨n, rfl, hn, hB, hX, hD⟩ := hrel
  by_cases hlt : n < ss.length
  . obtain ⟨b, o, rfl, hbs, hIn⟩ : ∃ b o, sA = some ⟨b, o, none⟩ /\ b < w.heap.size /\ In w b o ss := by
     rcases HN.out with h | h
     . subst h; simp at hlt
     . exact h
    have hDD := hidP (hD.out.trans (Qgs ss n hlt))
    have hi0 : (0 : Int) <= (n : Int) := by omega
    have hi1 : (n : Int) < (ss.length : Int) := by omega
    have hsf := HK.out _ (List.getElem_mem hlt)
    obtain ⟨c0, c1, c2, c3, c4, c5, c6, c7⟩ := (hIn.below hbs hB.out).getCo n hlt
    have q0 : b < wr.heap.size := Nat.lt_of_lt_of_le hbs hB.out.size
    have E1 : Hid (∀ W : World, Calls Tryz.prog 95 #[.agg (Qan ss[n].who ss[n].seq ss[n].op ss[n].a ss[n].b ss[n].c ss[n].key ss[n].text)] W fun e w' => e = .returned (.bool (!(Qd1 ss[n]))) /\ Below W.heap.size W w') := fun W => isSaid_any _ W
    have E2 : Hid (∀ W : World, Calls Tryz.prog 60 #[.agg (Qan ss[n].who ss[n].seq ss[n].op ss[n].a ss[n].b ss[n].c ss[n].key ss[n].text)] W fun e w' => e = .returned (.bool (okCo ss[n])) /\ Below W.heap.size W w') := fun W => CmdOk.impl_any _ _ _ _ _ _ _ _ hsf.1 hsf.2 W
    have hsd : saidB (n : Int) ss[n] = (Qd1 ss[n] || (okCo ss[n] && decide (ss[n].who = (n : Int)))) := rfl
    rw [hsd] at hDD
    have X1 := hidP (Blk.new wr 115 (Qan ss[n].who ss[n].seq ss[n].op ss[n].a ss[n].b ss[n].c ss[n].key ss[n].text))
    have B1 := hidP (show Below w.heap.size w (wr.alloc (.cells (Qan ss[n].who ss[n].seq ss[n].op ss[n].a ss[n].b ss[n].c ss[n].key ss[n].text) 115)) from Qab hB.out _)
    have X0 := hidP (hX.out.alloc (.cells (Qan ss[n].who ss[n].seq ss[n].op ss[n].a ss[n].b ss[n].c ss[n].key ss[n].text) 115))
    clear hD hsd hsf
    generalize Qd1 ss[n] = zb at E1 hDD
    generalize okCo ss[n] = cb at E2 hDD
    go_wp2_with fail
    refine (E1.out _).mono ?_
    rintro e w1 ⟨rfl, g⟩
    replace B1 := hidP (via0 g B1.out)
    replace X0 := hidP (X0.out.below g X0.out.lt)
    replace X1 := hidP (X1.out.below g X1.out.lt)
    clear g c0 c1 c2 c3 c4 c5 c6 c7 q0
    cases zb
    . have c0 := X1.out.cell (i := 0) rfl
      have c1 := X1.out.cell (i := 1) rfl
      have c2 := X1.out.cell (i := 2) rfl
      have c3 := X1.out.cell (i := 3) rfl
      have c4 := X1.out.cell (i := 4) rfl
      have c5 := X1.out.cell (i := 5) rfl
      have c6 := X1.out.cell (i := 6) rfl
      have c7 := X1.out.cell (i := 7) rfl
      have q0 := X1.out.lt
      by_cases hw : ss[n].who = (n : Int)
      case neg =>
       have hf : Hid (nb = false) := by show _ = _; rw [HF.out, hDD.out, decide_eq_false hw]; simp
       have hbq : (ss[n].who != (n : Int)) = true := bne_iff_ne.2 hw
       go_wp2
       go_ret
       exact ⟨by rw [hf.out]; rfl, B1.out⟩
      replace hDD := hidP (hDD.out.trans (by rw [decide_eq_true hw]))
      have hbq : (ss[n].who != (n : Int)) = false := by simp [hw]
      clear hw
      go_wp2_with fail
      refine (E2.out _).mono ?_
      rintro e w2 ⟨rfl, g⟩
      replace B1 := hidP (via0 g B1.out)
      replace X0 := hidP (X0.out.below g X0.out.lt)
      clear g c0 c1 c2 c3 c4 c5 c6 c7 q0 hbq
      cases cb
      . have hf : Hid (nb = false) := by show _ = _; rw [HF.out, hDD.out]; simp
        go_wp2
        go_ret
        exact ⟨by rw [hf.out]; rfl, B1.out⟩
      . go_wp2
        exact ⟨⟨n + 1, by go_num, by omega, B1, X0, hidP (by have := hDD.out; simpa using this)⟩, by simp [intOf]; omega⟩
    . go_wp2
      exact ⟨⟨n + 1, by go_num, by omega, B1, X0, hidP (by have := hDD.out; simpa using this)⟩, by simp [intOf]; omega⟩
  . have hS := hidP (show nb = decide ((ss.length : Int) = 4) by rw [HF.out, hD.out, List.drop_of_length_le (by omega)]; rfl)
    have x7 := hX.out.cell (i := 7) (v := .slice sA ss.length sc) rfl
    have q0 := hX.out.lt
    go_wp2
    go_ret
    exact ⟨by rw [hS.out]; rfl, hB.out⟩
end Go.Proofs.YtkmkldjipihceaaGreat.Gen
