/-
  Messages put behind those that are held: slices.Grow of nothing, slices.Concat of two lists, and the program's holding. No condition but that there are at most 1048576.
-/
import Derived.Test.YtmdaammalacifaaGreatPeCh
import Derived.Test.YtmdaammalacifaaGreatHCi
import Derived.Lib.AppendZerosOnto
set_option linter.unusedVariables false
set_option linter.unusedSimpArgs false
set_option maxRecDepth 100000
set_option maxHeartbeats 8000000
namespace Go.Proofs.YtmdaammalacifaaGreat.Gen
open ChangeShapes WideShapes ChangeAt RowKit Joins Deep Base
theorem Qdm {P : Program} {w w' : World} {ops : Array Oper} {rest : List Oper} {o : Oper} {a : Act} {Q : Go.Exit -> Act -> World -> Prop} (hgd : o.guard = none) (s x : Operand) (t u : TypeId)
 (ho : o.op = .call { callee := .builtin .append, args := #[s, x], argTypes := #[t, u] }) (v xv r : Value) (hs : a.eval s = v) (hx : a.eval x = xv)
 (hr : (Builtin.append_ #[t, u] o.type #[v, xv]).run P w = .ok r w') (h : wpList P ops Q rest (a.put o.dst r) w') : wpList P ops Q (o :: rest) a w :=
 wpList_plain hgd fun _ hK => by
  unfold Oper.wp execOp
  simp only [ho, resolve, invoke, builtin, Sem.run_bind, Sem.run_pure, Result.andThen_ok, List.map_toArray, List.map_cons, List.map_nil, hs, hx, hr]
  exact hK _ _ h
theorem growNil (n : Nat) (h0 : 0 < n) (hn : n <= 1000) (w : World) :
 Calls Tryz.prog 121 #[.slice none 0 0, .int .i64 (n : Int)] w fun e w' => ∃ (a : Option Addr) (c : Nat), e = .returned (.slice a 0 c) /\ w'.ownsRow w.heap.size 64 10 (.slice a 0 c) 0 [] /\ Below w.heap.size w w' := by
 obtain ⟨i, hi, hz, hs, hb⟩ : ∃ i, Tryz.prog.info? 64 = some i /\ i.zero = some (.agg #[.int .i64 0, .int .i64 0, .int .i64 0, .int .i64 0, .int .i64 0, .int .i64 0, .int .i64 0, .slice none 0 0, .bool false, .string ⟨#[]⟩]) /\ i.size = 10 /\ i.bytes = 104 := by
  have := Qc2
  cases h : Tryz.prog.info? 64 with
  | none => rw [h] at this; cases this
  | some i => rw [h] at this; simp only [Option.map_some, Option.some.injEq, Prod.mk.injEq] at this; exact ⟨i, rfl, this.1, this.2.1, this.2.2⟩
 have hr := Go.Lib.run_append_grow_zeros (P := Tryz.prog) w 57 3 57 64 i (.agg #[.int .i64 0, .int .i64 0, .int .i64 0, .int .i64 0, .int .i64 0, .int .i64 0, .int .i64 0, .slice none 0 0, .bool false, .string ⟨#[]⟩]) .i64 .i64 Tryz.underlying57 (by kernel_rfl) hi hz none 0 0 [] (by simp [Builtin.firstCells]) n h0 (by omega) (by omega) (by omega) (by rw [hb]; omega) (by rw [hb, Builtin.nextslicecap, if_pos (by omega)]; omega)
 rw [Nat.zero_add] at hr
 have hge := grownCap_ge w n 0 64
 have hle := grownCap_le_maxLen w n 0 64 (by unfold maxLen; omega)
 have HO := hidP (World.ownsRow_made (base := w.heap.size) (e := 64) (size := 10) w.drew (([] : List Value).toArray ++ Builtin.zeroCells (Value.agg #[.int .i64 0, .int .i64 0, .int .i64 0, .int .i64 0, .int .i64 0, .int .i64 0, .int .i64 0, .slice none 0 0, .bool false, .string ⟨#[]⟩]).cells n ++ Builtin.zeroCells (Value.agg #[.int .i64 0, .int .i64 0, .int .i64 0, .int .i64 0, .int .i64 0, .int .i64 0, .int .i64 0, .slice none 0 0, .bool false, .string ⟨#[]⟩]).cells (grownCap w n 0 64 - n)) (grownCap w n 0 64) (Nat.le_refl _) hle (by simp [size_zeroCells, Value.cells]; omega))
 generalize grownCap w n 0 64 = cc at *
 have HB : Hid (Below w.heap.size w (w.drew.alloc (.cells (([] : List Value).toArray ++ Builtin.zeroCells (Value.agg #[.int .i64 0, .int .i64 0, .int .i64 0, .int .i64 0, .int .i64 0, .int .i64 0, .int .i64 0, .slice none 0 0, .bool false, .string ⟨#[]⟩]).cells n ++ Builtin.zeroCells (Value.agg #[.int .i64 0, .int .i64 0, .int .i64 0, .int .i64 0, .int .i64 0, .int .i64 0, .int .i64 0, .slice none 0 0, .bool false, .string ⟨#[]⟩]).cells (cc - n)) 64))) := Qab (Below.refl _ _).drew _
 generalize w.drew.alloc (.cells (([] : List Value).toArray ++ Builtin.zeroCells (Value.agg #[.int .i64 0, .int .i64 0, .int .i64 0, .int .i64 0, .int .i64 0, .int .i64 0, .int .i64 0, .slice none 0 0, .bool false, .string ⟨#[]⟩]).cells n ++ Builtin.zeroCells (Value.agg #[.int .i64 0, .int .i64 0, .int .i64 0, .int .i64 0, .int .i64 0, .int .i64 0, .int .i64 0, .slice none 0 0, .bool false, .string ⟨#[]⟩]).cells (cc - n)) 64) = w9 at *
 clear hi hz hs hb
 go_enter Tryz.func121, Tryz.ntmps121
 go_wp2_with (at_builtin; refine Qdm rfl _ _ _ _ rfl _ _ _ rfl rfl hr ?_)
 go_ret
 exact ⟨_, _, rfl, HO.out, HB.out⟩
def Cat1 (l m : List RpC) (w : World) (q i : Value) (W : World) : Prop := w = W /\ ((i = .int .i64 0 /\ q = .int .i64 0) ∨ (i = .int .i64 1 /\ q = .int .i64 (l.length : Int)) ∨ (i = .int .i64 2 /\ q = .int .i64 ((l.length + m.length : Nat) : Int)))
def Cat2 (l m : List RpC) (w : World) (v i : Value) (W : World) : Prop := Below w.heap.size w W /\ ∃ (a : Option Addr) (c : Nat), (i = .int .i64 0 /\ v = .slice a 0 c /\ W.ownsRow w.heap.size 64 10 (.slice a 0 c) 0 []) ∨ (i = .int .i64 1 /\ v = .slice a l.length c /\ W.ownsRow w.heap.size 64 10 (.slice a l.length c) l.length (flat l)) ∨ (i = .int .i64 2 /\ v = .slice a (l ++ m).length c /\ W.ownsRow w.heap.size 64 10 (.slice a (l ++ m).length c) (l ++ m).length (flat (l ++ m)))
theorem concat2 (B : Nat) (t : TypeId) (A1 A2 : Option Addr) (k1 k2 : Nat) (l m : List RpC) (hl : l.length <= 100) (hm : m.length <= 100) (hm0 : 0 < m.length) (w : World) (hB : Blk w B t #[.slice A1 l.length k1, .slice A2 m.length k2]) (h1 : At w A1 l) (h2 : At w A2 m) :
 Calls Tryz.prog 79 #[.slice (some ⟨B, 0, none⟩) 2 2] w fun e w' => ∃ (a : Option Addr) (c : Nat), e = .returned (.slice a (l ++ m).length c) /\ Below w.heap.size w w' /\ At w' a (l ++ m) := by
 obtain ⟨u0, u1⟩ := hB.row2
 have HB := hidP hB
 have H1 := hidP h1
 have H2 := hidP h2
 have HG := hidP (growNil (l.length + m.length) (by omega) (by omega) w)
 clear hB h1 h2
 go_enter Tryz.func79, Tryz.ntmps79
 go_wp2
 go_loopw [3, 11] (fun q i W => Cat1 l m w q i W) (fun _ i _ => 2 - (intOf i).toNat)
 case atStart => exact ⟨rfl, .inl ⟨rfl, rfl⟩⟩
 case round =>
  obtain ⟨rfl, h⟩ := hrel
  rcases h with ⟨rfl, rfl⟩ | ⟨rfl, rfl⟩ | ⟨rfl, rfl⟩
  . go_wp2
    exact ⟨⟨rfl, .inr (.inl ⟨by go_num, by go_num⟩)⟩, by simp [intOf]⟩
  . go_wp2
    exact ⟨⟨rfl, .inr (.inr ⟨by go_num, by go_num⟩)⟩, by simp [intOf]⟩
  . clear u0 u1
    go_wp2_with fail
    refine HG.out.mono ?_
    rintro e w1 ⟨a1, c1, rfl, o1, g1⟩
    have O1 := hidP o1
    have G1 := hidP g1
    clear o1 g1 HG
    go_wp2
    go_loopw [6, 27] (fun v i W => Cat2 l m w v i W) (fun _ i _ => 2 - (intOf i).toNat)
    case atStart => exact ⟨G1.out, _, _, .inl ⟨rfl, rfl, O1.out⟩⟩
    case round =>
     obtain ⟨g, a, c, h⟩ := hrel
     clear O1 G1
     rcases h with ⟨rfl, rfl, o⟩ | ⟨rfl, rfl, o⟩ | ⟨rfl, rfl, o⟩
     . obtain ⟨v, w2, hr, hown, hgrow, hat⟩ := Qa0 (P := Tryz.prog) Tryz.underlying57 Qc2 rfl (by decide) (by decide) w.heap.size (.slice a 0 c) ([] : List RpC) l A1 k1 wr g.size o (H1.out.below g) (by simp; omega)
       simp only [List.length_nil, Nat.zero_add, List.nil_append] at hown
       obtain ⟨a', c', rfl, _⟩ := Qar hown
       obtain ⟨u0, u1⟩ := (HB.out.below g HB.out.lt).row2
       have O2 := hidP hown
       have G2 := hidP (g.grown hgrow g.size (fun k e => (o.lt k e).1))
       have hr' := hidP hr
       clear hown hgrow hat o g hr u1
       go_wp2_with (at_builtin; refine Qaj rfl _ _ _ rfl _ _ _ rfl rfl hr'.out ?_)
       exact ⟨⟨G2.out, _, _, .inr (.inl ⟨by go_num, rfl, O2.out⟩)⟩, by simp [intOf]⟩
     . obtain ⟨v, w2, hr, hown, hgrow, hat⟩ := Qa0 (P := Tryz.prog) Tryz.underlying57 Qc2 rfl (by decide) (by decide) w.heap.size (.slice a l.length c) l m A2 k2 wr g.size o (H2.out.below g) (by omega)
       rw [← List.length_append] at hown
       obtain ⟨a', c', rfl, _⟩ := Qar hown
       obtain ⟨u0, u1⟩ := (HB.out.below g HB.out.lt).row2
       have O2 := hidP hown
       have G2 := hidP (g.grown hgrow g.size (fun k e => (o.lt k e).1))
       have hr' := hidP hr
       clear hown hgrow hat o g hr u0
       go_wp2_with (at_builtin; refine Qaj rfl _ _ _ rfl _ _ _ rfl rfl hr'.out ?_)
       exact ⟨⟨G2.out, _, _, .inr (.inr ⟨by go_num, by rw [List.length_append], O2.out⟩)⟩, by simp [intOf]⟩
     . have O2 := hidP (Qbk (α := RpC) o).at
       have G2 := hidP g
       clear o g
       generalize hn : (l ++ m).length = nn at *
       go_wp2
       go_ret
       subst hn
       exact ⟨_, _, rfl, G2.out, O2.out⟩
theorem Qb8 {P : Program} {fn : Func} {p q : Tmp} {ty : TypeId} (h : fn.results = #[.cell p ty, .tmp q]) {tmps : Array Value} {w : World} {b : Nat} {v : Value} (ht : tmps.getD p undef = .pointer (some ⟨b, 0, none⟩)) (hv : tmps.getD q undef = v) {t : TypeId} {vs : Array Value} (r : Blk w b t vs) {fs : Array Field} (hu : P.underlying ty = some (.struct fs)) (hi : (P.info? ty).map (·.size) = some vs.size) : (results fn tmps).run P w = .ok (.tuple #[.agg vs, v]) w := by
 have ht2 : tmps[p]?.getD undef = .pointer (some ⟨b, 0, none⟩) := by rw [← Array.getD_eq_getD_getElem?]; exact ht
 have hv2 : tmps[q]?.getD undef = v := by rw [← Array.getD_eq_getD_getElem?]; exact hv
 have hl := run_loadVar_row (P := P) w b t ty vs (0, 0) (.struct fs) r hu rfl hi
 simp only [results, h]
 simp [ht2, hv2, asAddr, hl]
theorem all_set {vs : Array Value} {i : Nat} {v : Value} (h : vs.all (·.oneCell') = true) (hv : v.oneCell' = true) : (vs.setIfInBounds i v).all (·.oneCell') = true := by
 rw [Array.all_eq_true_iff_forall_mem] at h ⊢
 intro x hx
 rcases Array.mem_or_eq_of_mem_setIfInBounds hx with h1 | h1
 . exact h x h1
 . rw [h1]; exact hv
def ToldHo (w w' : World) (e : Ending) (nd : Array Value) (l : List RpC) : Prop :=
  if 40 < l.length then e = .returned (.tuple #[.agg nd, .bool false]) /\ Below w.heap.size w w' else
    ∃ (a : Option Addr) (c : Nat) (hs' : List RpC), e = .returned (.tuple #[.agg (nd.setIfInBounds 30 (.slice a l.length c)), .bool true]) /\ Below w.heap.size w w' /\ hs'.map RpC.p = l.map RpC.p /\ Own rpcP w' a hs' (fun z => w.heap.size <= z /\ z < w'.heap.size)
theorem Qg6 (nd : Array Value) (hsz : nd.size = 31) (hone : nd.all (·.oneCell') = true) (hA A2 : Option Addr) (hc k2 : Nat) (hs m : List RpC) (h30 : nd[30]? = some (.slice hA hs.length hc)) (hl : hs.length <= 1048576) (hm : m.length <= 40) (hm0 : 0 < m.length) (hi : ∀ x ∈ hs ++ m, x.l.length <= 1048576)
 (w : World) (h1 : At w hA hs) (h2 : At w A2 m) (hE : EachP w (hs ++ m)) :
 Calls Tryz.prog 33 #[.agg nd, .slice A2 m.length k2] w fun e w' => ToldHo w w' e nd (hs ++ m) := by
 have I : Bx2 w ((w.alloc (.cells nd 90)).alloc (.cells #[.int .i64 0, .int .i64 0, .int .i64 0, .int .i64 0, .slice none 0 0, .slice none 0 0, .slice none 0 0, .slice none 0 0, .int .i64 0, .slice none 0 0, .slice none 0 0, .int .i64 0, .int .i64 0, .int .i64 0, .int .i64 0, .int .i64 0, .int .i64 0, .int .i64 0, .slice none 0 0, .slice none 0 0, .slice none 0 0, .int .i64 0, .slice none 0 0, .slice none 0 0, .slice none 0 0, .int .i64 0, .slice none 0 0, .slice none 0 0, .slice none 0 0, .int .i64 0, .slice none 0 0] 90)) 90 #[.int .i64 0, .int .i64 0, .int .i64 0, .int .i64 0, .slice none 0 0, .slice none 0 0, .slice none 0 0, .slice none 0 0, .int .i64 0, .slice none 0 0, .slice none 0 0, .int .i64 0, .int .i64 0, .int .i64 0, .int .i64 0, .int .i64 0, .int .i64 0, .int .i64 0, .slice none 0 0, .slice none 0 0, .slice none 0 0, .int .i64 0, .slice none 0 0, .slice none 0 0, .slice none 0 0, .int .i64 0, .slice none 0 0, .slice none 0 0, .slice none 0 0, .int .i64 0, .slice none 0 0] nd := ⟨Qab (Qab (Below.refl _ _) _) _, (Blk.new w _ _).alloc _, by have := Blk.new (w.alloc (.cells nd 90)) 90 #[.int .i64 0, .int .i64 0, .int .i64 0, .int .i64 0, .slice none 0 0, .slice none 0 0, .slice none 0 0, .slice none 0 0, .int .i64 0, .slice none 0 0, .slice none 0 0, .int .i64 0, .int .i64 0, .int .i64 0, .int .i64 0, .int .i64 0, .int .i64 0, .int .i64 0, .slice none 0 0, .slice none 0 0, .slice none 0 0, .int .i64 0, .slice none 0 0, .slice none 0 0, .slice none 0 0, .int .i64 0, .slice none 0 0, .slice none 0 0, .slice none 0 0, .int .i64 0, .slice none 0 0]; rwa [World.size_alloc] at this⟩
 have u30 := I.p1.cell (i := 30) h30
 have HI := hidP I
 have H1 := hidP h1
 have H2 := hidP h2
 have HE := hidP hE
 have Hi := hidP hi
 have HZ := hidP hsz
 have HO := hidP hone
 have S31 : Hid ((Tryz.prog.info? 90).map (·.size) = some nd.size) := by show _ = _; rw [HZ.out]; kernel_rfl
 have H30 := hidP h30
 clear I h1 h2 hE hi hsz hone h30
 by_cases hgt : 40 < hs.length + m.length
 . go_enter Tryz.func33, Tryz.ntmps33
   go_upto_region 2 with fail
   refine wp_region_lit ?_
   refine Qag rfl 90 _ rfl (b := w.heap.size) rfl HI.out.p1 Tryz.underlying90 S31.out ?_
   refine Qam rfl 90 _ _ rfl (g := w.heap.size + 1) (cells := nd) rfl rfl HI.out.p2 S31.out (by rw [HZ.out]; rfl) HO.out ?_
   have HB := hidP (HI.out.p2.row nd)
   clear u30
   go_wp2
   refine bodyPost_ret (v := .tuple #[.agg nd, .bool false]) (Qb8 (fn := Tryz.f33) (p := 4) (q := 5) (by rfl) rfl rfl HB.out Tryz.underlying90 S31.out) rfl ?_
   unfold ToldHo
   rw [if_pos (by rw [List.length_append]; exact hgt)]
   exact ⟨rfl, Qbx HI.out.bl (by omega) _⟩
 . go_enter Tryz.func33, Tryz.ntmps33
   go_wp2_with fail
   have J := HI.out
   have BB := Blk.new ((w.alloc (.cells nd 90)).alloc (.cells #[.int .i64 0, .int .i64 0, .int .i64 0, .int .i64 0, .slice none 0 0, .slice none 0 0, .slice none 0 0, .slice none 0 0, .int .i64 0, .slice none 0 0, .slice none 0 0, .int .i64 0, .int .i64 0, .int .i64 0, .int .i64 0, .int .i64 0, .int .i64 0, .int .i64 0, .slice none 0 0, .slice none 0 0, .slice none 0 0, .int .i64 0, .slice none 0 0, .slice none 0 0, .slice none 0 0, .int .i64 0, .slice none 0 0, .slice none 0 0, .slice none 0 0, .int .i64 0, .slice none 0 0] 90)) 57 #[.slice hA hs.length hc, .slice A2 m.length k2]
   rw [World.size_alloc, World.size_alloc] at BB
   have J1 := J.below (Qab (Below.refl _ _) (.cells #[.slice hA hs.length hc, .slice A2 m.length k2] 57))
   have hl1 : hs.length <= 40 := by omega
   refine (concat2 (w.heap.size + 1 + 1) 57 hA A2 hc k2 hs m (by omega) (by omega) hm0 _ BB (H1.out.below J1.bl) (H2.out.below J1.bl)).mono ?_
   rintro e w1 ⟨a1, c1, rfl, g1, at1⟩
   have J2 := J1.below g1
   have AT := hidP at1
   have EE := hidP (fun x hx => (HE.out x hx).below J2.bl)
   have hL : (hs ++ m).length <= 40 := by rw [List.length_append]; omega
   have K2 := hidP J2
   clear J J1 J2 BB g1 at1 HI u30
   generalize hsm : hs ++ m = L at *
   go_wp2_with fail
   refine (cpHeld a1 c1 L (by omega) Hi.out _ AT.out EE.out).mono ?_
   rintro e w2 ⟨a2, c2, hs', rfl, g2, hp, hO⟩
   have J3 := K2.out.below g2
   have f30 := J3.p1.thaw 30
   have x30 := J3.p1.cell (i := 30) (v := .slice hA hs.length hc) H30.out
   have P := J3.set 30 (.slice a2 L.length c2)
   have HP := hidP P
   have HOw := hidP hO
   have HPp := hidP hp
   have hz2 := K2.out.p2.lt
   have S32 : Hid ((Tryz.prog.info? 90).map (·.size) = some (nd.setIfInBounds 30 (.slice a2 L.length c2)).size) := by show _ = _; rw [Array.size_setIfInBounds]; exact S31.out
   have O32 : Hid ((nd.setIfInBounds 30 (.slice a2 L.length c2)).all (·.oneCell') = true) := all_set HO.out rfl
   clear P J3 g2 hp hO
   go_upto_region 4 with fail
   refine wp_region_lit ?_
   refine Qag rfl 90 _ rfl (b := w.heap.size) rfl HP.out.p1 Tryz.underlying90 S32.out ?_
   refine Qam rfl 90 _ _ rfl (g := w.heap.size + 1) (cells := nd.setIfInBounds 30 (.slice a2 L.length c2)) rfl rfl HP.out.p2 S32.out (by rw [Array.size_setIfInBounds, HZ.out]; rfl) O32.out ?_
   have HB := hidP (HP.out.p2.row (nd.setIfInBounds 30 (.slice a2 L.length c2)))
   clear f30 x30
   go_wp2
   refine bodyPost_ret (v := .tuple #[.agg (nd.setIfInBounds 30 (.slice a2 L.length c2)), .bool true]) (Qb8 (fn := Tryz.f33) (p := 4) (q := 5) (by rfl) rfl rfl HB.out Tryz.underlying90 S32.out) rfl ?_
   rw [hsm]
   unfold ToldHo
   rw [if_neg (by omega)]
   have k := ((Offp.refl (fun z => z = w.heap.size ∨ z = w.heap.size + 1) w2).set (Or.inl rfl) 30 (.slice a2 L.length c2)).row (b := w.heap.size + 1) (Or.inr rfl) (nd.setIfInBounds 30 (.slice a2 L.length c2))
   have hk := k.size
   exact ⟨a2, c2, hs', rfl, Qbx HP.out.bl (by omega) _, HPp.out, (HOw.out.offp Qan k (fun z hz e => by have := hz.1; omega)).mono (fun z hz => ⟨by have := hz.1; omega, by have := hz.2; omega⟩)⟩
end Go.Proofs.YtmdaammalacifaaGreat.Gen
