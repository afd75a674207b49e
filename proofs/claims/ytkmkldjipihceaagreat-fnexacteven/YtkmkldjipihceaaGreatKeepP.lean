/-
  What is asked of a keeper hangs on its content alone, not on where it lies. No condition.
-/
import Derived.Test.YtkmkldjipihceaaGreatKOk
import Derived.Test.YtkmkldjipihceaaGreatSmP
set_option linter.unusedVariables false
set_option linter.unusedSimpArgs false
set_option maxRecDepth 100000
set_option maxHeartbeats 8000000
set_option maxRecDepth 100000
set_option maxHeartbeats 8000000
namespace Go.Proofs.YtkmkldjipihceaaGreat.Gen
open ChangeShapes WideShapes ChangeAt RowKit Joins Deep Base
def rowFp (p : PR) : Bool := Items.rowB p.start p.next p.its
def makFp (ro wi : Int) (p : PM) : Bool := okB p.row p.who p.epoch p.last wi p.ms && decide (p.row < ro)
def grpFp (ro : Int) (p : PG) : Bool := gokB p.gen ro p.m p.b p.o
def behP (a b : PM) : Bool := decide (a.row < b.row) || (decide (a.row = b.row) && decide (a.who < b.who))
def ordP (l : List PM) (i : Nat) : Bool := decide (i = 0) || behP (l.getD (i - 1) (default : MC).p) (l.getD i (default : MC).p)
theorem all_p {α β : Type} (p : α -> β) (f : β -> Bool) (l : List α) : l.all (fun x => f (p x)) = (l.map p).all f := by rw [List.all_map]; rfl
theorem getD_p {α β : Type} (p : α -> β) (l : List α) (i : Nat) (d : α) : p (l.getD i d) = (l.map p).getD i (p d) := by
 simp only [List.getD_eq_getElem?_getD, List.getElem?_map]
 cases l[i]?<;>rfl
theorem ordTo_p (l : List MC) (n : Nat) : Qbn l n = (List.range n).all (ordP (l.map MC.p)) := by
 unfold Qbn
 congr 1
 funext i
 simp only [Qev, ordP, ← getD_p]
 rfl
theorem Qbr {α β : Type} (p : α -> β) (c : β -> Nat) (l : List α) : Qat (fun x => c (p x)) l = Qat c (l.map p) := by simp [Qat, List.map_map, Function.comp_def]
theorem mem_p {α β : Type} {p : α -> β} {Q : β -> Prop} {l m : List α} (h : m.map p = l.map p) (hl : ∀ x ∈ l, Q (p x)) : ∀ x ∈ m, Q (p x) := fun x hx => by
 have : p x ∈ l.map p := h ▸ List.mem_map_of_mem hx
 obtain ⟨y, hy, e⟩ := List.mem_map.1 this
 rw [← e]; exact hl y hy
theorem keepB_p {x y : KC} (h : y.p = x.p) (ro wi le ke : Int) : Qbo ro wi le ke y = Qbo ro wi le ke x := by
 obtain ⟨l1, l2, l3, l4, l5, l6⟩ := KC.p_len h
 simp only [KC.p, PK.mk.injEq] at h
 obtain ⟨h1, h2, h3, _, _, _⟩ := h
 have e1 : y.rs.all rowF = x.rs.all rowF := (all_p RC.p rowFp y.rs).trans (by rw [h1]; exact (all_p RC.p rowFp x.rs).symm)
 have e2 : y.ms.all (makF ro wi) = x.ms.all (makF ro wi) := (all_p MC.p (makFp ro wi) y.ms).trans (by rw [h2]; exact (all_p MC.p (makFp ro wi) x.ms).symm)
 have e3 : y.gs.all (grpF ro) = x.gs.all (grpF ro) := (all_p GC.p (grpFp ro) y.gs).trans (by rw [h3]; exact (all_p GC.p (grpFp ro) x.gs).symm)
 have e4 : Qbn y.ms y.ms.length = Qbn x.ms x.ms.length := by rw [ordTo_p, ordTo_p, l2, h2]
 unfold Qbo
 rw [e1, e2, e3, e4, l1, l3, l4, l5, l6]
theorem fit_p {x y : KC} (h : y.p = x.p) (f : KFit x) : KFit y := by
 obtain ⟨l1, l2, l3, l4, l5, l6⟩ := KC.p_len h
 simp only [KC.p, PK.mk.injEq] at h
 obtain ⟨h1, h2, h3, _, _, _⟩ := h
 have c1 : Qat cR y.rs = Qat cR x.rs := (Qbr RC.p (fun p => 2 + p.its.length * 5) y.rs).trans (by rw [h1]; exact (Qbr RC.p (fun p => 2 + p.its.length * 5) x.rs).symm)
 have c2 : Qat cM y.ms = Qat cM x.ms := (Qbr MC.p (fun p => 4 + p.ms.length * 2) y.ms).trans (by rw [h2]; exact (Qbr MC.p (fun p => 4 + p.ms.length * 2) x.ms).symm)
 have c3 : Qat cG y.gs = Qat cG x.gs := (Qbr GC.p (fun p => 1 + p.m.length + p.b.length + p.o.length) y.gs).trans (by rw [h3]; exact (Qbr GC.p (fun p => 1 + p.m.length + p.b.length + p.o.length) x.gs).symm)
 exact ⟨l1 ▸ f.rl, l2 ▸ f.ml, l3 ▸ f.gl, l5 ▸ f.dl, l6 ▸ f.ll, mem_p (p := RC.p) (Q := fun p => p.its.length <= 1048576) h1 f.ri, mem_p (p := MC.p) (Q := fun p => p.ms.length <= 1048576) h2 f.mi, mem_p (p := GC.p) (Q := fun p => p.m.length <= 1048576 /\ p.b.length <= 1048576 /\ p.o.length <= 1048576) h3 f.gi, c1 ▸ f.rc, c2 ▸ f.mc, c3 ▸ f.gc⟩
theorem ask_p {x y : KC} (h : y.p = x.p) (f : KAsk x) : KAsk y := by
 have l6 := (KC.p_len h).2.2.2.2.2
 have h1 : y.rs.map RC.p = x.rs.map RC.p := by simp only [KC.p, PK.mk.injEq] at h; exact h.1
 exact ⟨fit_p h f.fit, mem_p (p := RC.p) (Q := fun p => I64 p.start /\ I64 p.next /\ p.its.length <= 9223372036854775807 /\ ∀ y ∈ p.its, y.right) h1 f.rr, l6 ▸ f.lr⟩
theorem Qcd {a b : List RpC} (h : a.map RpC.p = b.map RpC.p) : a.length = b.length := by have := congrArg List.length h; simpa using this
theorem Qf4 {a b : List RpC} {N : Nat} (h : a.map RpC.p = b.map RpC.p) (hb : ∀ z ∈ b, z.l.length <= N) : ∀ z ∈ a, z.l.length <= N := by
 intro z hz
 have h1 : z.p ∈ b.map RpC.p := h ▸ List.mem_map_of_mem hz
 obtain ⟨y, hy, e⟩ := List.mem_map.1 h1
 have : y.l = z.l := congrArg RpP.l e
 rw [← this]; exact hb y hy
theorem kct_p {x y : KC} (h : y.p = x.p) : kct y = kct x := by
 obtain ⟨l1, l2, l3, l4, l5, l6⟩ := KC.p_len h
 simp only [KC.p, PK.mk.injEq] at h
 obtain ⟨h1, h2, h3, _, _, _⟩ := h
 have c1 : Qat cR y.rs = Qat cR x.rs := (Qbr RC.p (fun p => 2 + p.its.length * 5) y.rs).trans (by rw [h1]; exact (Qbr RC.p (fun p => 2 + p.its.length * 5) x.rs).symm)
 have c2 : Qat cM y.ms = Qat cM x.ms := (Qbr MC.p (fun p => 4 + p.ms.length * 2) y.ms).trans (by rw [h2]; exact (Qbr MC.p (fun p => 4 + p.ms.length * 2) x.ms).symm)
 have c3 : Qat cG y.gs = Qat cG x.gs := (Qbr GC.p (fun p => 1 + p.m.length + p.b.length + p.o.length) y.gs).trans (by rw [h3]; exact (Qbr GC.p (fun p => 1 + p.m.length + p.b.length + p.o.length) x.gs).symm)
 unfold kct
 rw [c1, c2, c3, l5, l6]
theorem cnt_p {a b : List RpC} (h : a.map RpC.p = b.map RpC.p) : Qat (fun z : RpC => z.l.length) a = Qat (fun z : RpC => z.l.length) b :=
 (Qbr RpC.p (fun p => p.l.length) a).trans (by rw [h]; exact (Qbr RpC.p (fun p => p.l.length) b).symm)
theorem PFit.same {q p : PC} (f : PFit p) (s : SameP q p) : PFit q :=
 ⟨s.l ▸ f.ll, fit_p s.x f.xf, s.vs ▸ f.vl, s.ns ▸ f.nl, s.ps ▸ f.pl, fit_p s.y f.yf, s.db ▸ f.dl, by rw [Qcd s.hs]; exact f.hl, Qf4 s.hs f.hi, by rw [s.l, kct_p s.x, s.vs, s.ns, s.ps, kct_p s.y, s.db, Qcd s.hs, cnt_p s.hs]; exact f.tot⟩
theorem eqQ {a b p : PC} (hf : PFit p) (sa : SameP a p) (sb : SameP b p) {W : World} (ha : PAt W a) (hb : PAt W b) : Calls Tryz.prog 62 #[.agg (Qaw a), .agg (Qaw b)] W fun e w' => e = .returned (.bool true) /\ Below W.heap.size W w' := by
 have fa := hf.same sa
 have s := sb.trans sa.symm
 have h := Qh9 a.id a.te a.vo a.base a.bt a.role a.com a.su a.A b.A a.vA b.vA a.nA b.nA a.pA b.pA a.dA b.dA a.hA b.hA a.cap b.cap a.vc b.vc a.nc b.nc a.pc b.pc a.dc b.dc a.hc b.hc a.l a.vs a.ns a.ps a.db a.hs b.hs a.x b.x a.y b.y
  (by have := fa.ll; omega) (by have := fa.vl; omega) (by have := fa.nl; omega) (by have := fa.pl; omega) (by have := fa.dl; omega) (by have := fa.hl; omega) (fun z hz => by have := fa.hi z hz; omega)
  fa.xf s.x fa.yf s.y s.hs W ha.la (s.l ▸ hb.la) ha.xa hb.xa ha.va (s.vs ▸ hb.va) ha.na (s.ns ▸ hb.na) ha.pa (s.ps ▸ hb.pa) ha.ya hb.ya ha.da (s.db ▸ hb.da) ha.ha ha.he hb.ha hb.he
 have e : Qaw b = Qaw { b with id := a.id, te := a.te, vo := a.vo, base := a.base, bt := a.bt, l := a.l, role := a.role, vs := a.vs, ns := a.ns, ps := a.ps, com := a.com, db := a.db, su := a.su } := by
  simp only [Qaw, Qhd, heldV, s.id, s.te, s.vo, s.base, s.bt, s.l, s.role, s.vs, s.ns, s.ps, s.com, s.db, s.su]
 rw [e]
 have hl := Qcd s.hs
 simp only [Qaw, Qhd, heldV, hl]
 exact h
instance : Inhabited KC := ⟨⟨none, 0, [], none, 0, [], none, 0, [], 0, none, 0, [], none, 0, []⟩⟩
instance : Inhabited PC := ⟨⟨0, 0, 0, 0, 0, none, 0, [], default, 0, none, 0, [], none, 0, [], none, 0, [], 0, default, none, 0, [], 0, none, 0, []⟩⟩
instance : Cel PC where
  k := 26
  cs p := (Qaw p).toList
  len _ := rfl
  one p u hu := (Array.all_eq_true_iff_forall_mem.1 (Qb3 p)) u (by simpa using hu)
theorem In.el {α : Type} [Cel α] {w : World} {b o : Nat} {l : List α} (h : In w b o l) (n : Nat) (hn : n < l.length) : w.rangeAt b (o + n * Cel.k α) (Cel.cs l[n]) := fun j v hv => h.cell n hn (f := j) hv
theorem Qce {P : Program} {a : Act} {op : Oper} {w : World} {ty : TypeId} {x : Operand} (ho : op.op = .load ty x) {b o : Nat} (hx : a.eval x = .pointer (some ⟨b, o, none⟩)) {cs : List Value} (hc : w.rangeAt b o cs) {fs : Array Field} (hu : P.underlying ty = some (.struct fs)) (hi : (P.info? ty).map (·.size) = some cs.length) : (execOp a.eval op).run P w = .ok (.value (.agg cs.toArray)) w := by
 unfold execOp
 simp only [ho, hx, Instr.loadAt, Instr.sureAddr, Sem.run_bind, Sem.run_pure, Result.andThen_ok, run_loadVar_mid w b o ty cs (.struct fs) hc hu rfl hi]
theorem Qee {w w' : World} {b o : Nat} {cs : List Value} (h : w.rangeAt b o cs) (g : Below w.heap.size w w') (hb : b < w.heap.size) : w'.rangeAt b o cs := fun j v hv => ((Qax g).1 _ _ hb).trans (h j v hv)
def pcP (w : World) (p : PC) (S : Nat -> Prop) : Prop := POwn w p S
theorem pcP_firm : Firm pcP := fun w w' x S T h k hd => POwn.offp h k hd
def SameN (qs ps : List PC) : Prop := qs.length = ps.length /\ ∀ (i : Nat) (h : i < qs.length) (h' : i < ps.length), SameP qs[i] ps[i]
theorem SameN.symm {qs ps : List PC} (h : SameN qs ps) : SameN ps qs := ⟨h.1.symm, fun i a b => (h.2 i b a).symm⟩
theorem SameN.trans {a b c : List PC} (h : SameN a b) (k : SameN b c) : SameN a c := ⟨h.1.trans k.1, fun i x y => (h.2 i x (h.1 ▸ x)).trans (k.2 i (h.1 ▸ x) y)⟩
theorem SameN.snoc {pre ps : List PC} {n : Nat} (hn : n < ps.length) (hp : pre.length = n) (h : SameN pre (ps.take n)) {q : PC} (s : SameP q ps[n]) : SameN (pre ++ [q]) (ps.take (n + 1)) := by
 refine ⟨by simp; omega, fun i hi hi' => ?_⟩
 by_cases e : i < pre.length
 . rw [List.getElem_append_left e]
   have h2 := h.2 i e (by simp; omega)
   simp only [List.getElem_take] at h2 ⊢
   exact h2
 . have e2 : i = n := by simp at hi; omega
   subst e2
   rw [List.getElem_append_right (by omega)]
   simp only [List.getElem_take, hp, Nat.sub_self, List.getElem_cons_zero]
   exact s
def EachN (w : World) (l : List PC) : Prop := ∀ x ∈ l, PAt w x
theorem EachN.below {w w' : World} {l : List PC} (h : EachN w l) (g : Below w.heap.size w w') : EachN w' l := fun x hx => (h x hx).below g
theorem own_eachN {S : Nat -> Prop} {w : World} {a : Option Addr} {l : List PC} (h : Own pcP w a l S) : EachN w l := h.each (fun x S hx => POwn.at hx)
theorem SameN.all {qs ps : List PC} (h : SameN qs ps) {Q : PC -> Prop} (hQ : ∀ q p, SameP q p -> Q p -> Q q) (hp : ∀ p ∈ ps, Q p) : ∀ q ∈ qs, Q q := fun q hq => by
 obtain ⟨i, hi, rfl⟩ := List.getElem_of_mem hq
 exact hQ _ _ (h.2 i hi (h.1 ▸ hi)) (hp _ (List.getElem_mem _))
theorem infoPC : (Tryz.prog.info? 67).map (fun i => (i.zero, i.size, i.bytes)) = some (some (.agg Qak), 26, 464) := by kernel_rfl
theorem Qcu : (Tryz.prog.info? 67).map (·.size) = some 26 := by kernel_rfl
theorem sizePL : (Tryz.prog.info? 97).map (·.size) = some 26 := by kernel_rfl
theorem cellsPCL : Tryz.prog.cellsOf 97 = 26 := by kernel_rfl
def ptot (p : PC) : Nat := p.l.length * 9 + kct p.x + p.vs.length + p.ns.length + p.ps.length + kct p.y + p.db.length + 9 * (p.hs.length + Qat (fun z : RpC => z.l.length) p.hs)
theorem ptot_int (p : PC) : (ptot p : Int) = (p.l.length : Int) * 9 + (kct p.x : Int) + (p.vs.length : Int) + (p.ns.length : Int) + (p.ps.length : Int) + (kct p.y : Int) + (p.db.length : Int) + 9 * ((p.hs.length : Int) + (Qat (fun z : RpC => z.l.length) p.hs : Int)) := by
 unfold ptot; push_cast; rfl
theorem Qhu (A : Option Addr) (cap : Nat) (ps : List PC) (hl : ps.length <= 9223372036854775807) (hr : ∀ p ∈ ps, PRight p) (left : Int) (h0 : 0 <= left) (h1 : left <= 1048576) (w : World) (hA : At w A ps) (hE : EachN w ps) :
 Calls Tryz.prog 12 #[.slice A ps.length cap, .int .i64 left] w fun e w' => (∃ r : Int, e = .returned (.int .i64 r) /\ (r < 0 ∨ (0 <= r /\ r <= left /\ (ps.length <= 1048576 /\ (∀ p ∈ ps, PFit p) /\ (Qat ptot ps : Int) <= 9 * (left - (ps.length : Int) - r))))) /\ Below w.heap.size w w' := by
 have HA := hidP hA
 have Hr := hidP hr
 have HE := hidP hE
 clear hA hr hE
 by_cases h : left < (ps.length : Int)
 . have g : left - (ps.length : Int) < 0 := by omega
   go_enter Tryz.func12, Tryz.ntmps12
   go_wp2
   go_ret
   exact ⟨⟨-1, rfl, .inl (by omega)⟩, Below.refl _ _⟩
 . have g : ¬ left - (ps.length : Int) < 0 := by omega
   go_enter Tryz.func12, Tryz.ntmps12
   go_wp2
   go_loopw [1, 5] (fun q i w' => ∃ (n : Nat) (z : Int), i = .int .i64 (n : Int) /\ q = .int .i64 z /\ n <= ps.length /\ 0 <= z /\ z <= left - (ps.length : Int) /\ Hid ((Qat ptot (ps.take n) : Int) <= 9 * (left - (ps.length : Int) - z)) /\ Hid (∀ p ∈ ps.take n, PFit p) /\ Below w.heap.size w w') (fun _ i _ => ps.length - (intOf i).toNat)
   case atStart => exact ⟨0, _, rfl, rfl, by omega, by omega, by omega, by simp [Hid, Qat], by simp [Hid], Below.refl _ _⟩
   case round =>
    obtain ⟨n, z, rfl, rfl, hn, hz0, hz1, hz, hfz, hbl⟩ := hrel
    by_cases hlt : n < ps.length
    . obtain ⟨b, o, rfl, hbs, hIn⟩ : ∃ b o, A = some ⟨b, o, none⟩ /\ b < w.heap.size /\ In w b o ps := by
       rcases HA.out with h | h
       . subst h; simp at hlt
       . exact h
      have HR := hidP ((hIn.below hbs hbl).el n hlt)
      have HS : Hid (Calls Tryz.prog 35 #[.agg (Cel.cs ps[n]).toArray, .int .i64 z] wr fun e w' => (∃ r : Int, e = .returned (.int .i64 r) /\ (r < 0 ∨ (0 <= r /\ PFit ps[n] /\ r <= z /\ (ptot ps[n] : Int) <= 9 * (z - r)))) /\ Below wr.heap.size wr w') := by
       have := szPeer_at ps[n] (Hr.out _ (List.getElem_mem hlt)) z hz0 (by omega) wr ((HE.out _ (List.getElem_mem hlt)).below hbl)
       show Calls _ _ _ _ _
       rw [ptot_int]
       exact this
      have hsn := hidP (Qbl ptot ps n hlt)
      have hi0 : (0 : Int) <= (n : Int) := by omega
      have hi1 : (n : Int) < (ps.length : Int) := by omega
      go_upto_region 7 with fail
      refine wp_region_lit ?_
      iterate 9 go_step
      refine wpList_load_mid (by rfl) 97 _ (by rfl) b (o + n * 26) (by rfl) (Cel.cs ps[n]) _ HR.out Tryz.underlying97 rfl sizePL ?_
      go_wp2_with fail
      refine HS.out.mono ?_
      rintro e w1 ⟨⟨r, rfl, hr⟩, g1⟩
      rcases hr with hr | ⟨hr0, hf, hr1, hr2⟩
      . go_wp2
        go_ret
        exact ⟨⟨-1, rfl, .inl (by omega)⟩, via0 g1 hbl⟩
      . have hp : ¬ r < 0 := by omega
        have HR1 := hidP hr2
        have HF := hidP hf
        clear hr2 hf
        go_wp2
        have hz' := hz.out
        have hsn' := hsn.out
        have hr' := HR1.out
        refine ⟨⟨n + 1, r, by go_num, rfl, by omega, by omega, by omega, by show _ <= _; rw [hsn']; push_cast; omega, ?_, via0 g1 hbl⟩, by simp [intOf]; omega⟩
        intro p hp
        rw [List.take_succ_eq_append_getElem hlt, List.mem_append] at hp
        rcases hp with hp | hp
        . exact hfz.out p hp
        . rw [List.mem_singleton] at hp; subst hp; exact HF.out
    . have e : ps.take n = ps := List.take_of_length_le (by omega)
      go_wp2
      go_ret
      have hz' := hz.out
      have hf' := hfz.out
      rw [e] at hz' hf'
      exact ⟨⟨z, rfl, .inr ⟨hz0, by omega, by omega, hf', hz'⟩⟩, hbl⟩
theorem Qhn (A : Option Addr) (cap : Nat) (ps : List PC) (hl : ps.length <= 1048576) (hf : ∀ p ∈ ps, PFit p) (w : World) (hA : At w A ps) (hE : EachN w ps) :
 Calls Tryz.prog 19 #[.slice A ps.length cap] w fun e w' => e = .returned (.slice (some ⟨w.heap.size, 0, none⟩) ps.length ps.length) /\ Below w.heap.size w w' /\ ∃ qs, Grow pcP w' w.heap.size ps.length qs /\ SameN qs ps := by
 have HA := hidP hA
 have HE := hidP hE
 have Hf := hidP hf
 clear hA hE hf
 have hmk := Qbg (P := Tryz.prog) Tryz.underlying34 infoPC (by omega) ps.length hl
 go_enter Tryz.func19, Tryz.ntmps19
 go_wp2
 go_loopw [4] (fun i w' => ∃ (n : Nat) (pre : List PC), i = .int .i64 (n : Int) /\ n <= ps.length /\ Below w.heap.size w w' /\ w.heap.size < w'.heap.size /\ Hid (pre.length = n) /\ Hid (Grow pcP w' w.heap.size ps.length pre) /\ Hid (SameN pre (ps.take n))) (fun i _ => ps.length - (intOf i).toNat)
 case atStart => exact ⟨0, [], rfl, by omega, by repeat (first | exact Below.refl _ _ | assumption | refine via0 (by assumption) ?_ | refine Below.drew ?_ | refine Qab ?_ _), by simp, rfl, Grow.start (by simp) (Qa0 w _ _ _ _), ⟨rfl, fun i h => by simp at h⟩⟩
 case round =>
  obtain ⟨n, pre, rfl, hn, hbl, hsz, hpl, hgr, hsame⟩ := hrel
  by_cases hlt : n < ps.length
  . obtain ⟨b, o, rfl, hbs, hIn⟩ : ∃ b o, A = some ⟨b, o, none⟩ /\ b < w.heap.size /\ In w b o ps := by
     rcases HA.out with h | h
     . subst h; simp at hlt
     . exact h
    have HR := hidP ((hIn.below hbs hbl).el n hlt)
    have HS : Hid (Calls Tryz.prog 44 #[.agg (Cel.cs ps[n]).toArray] wr fun e w' => ∃ q : PC, e = .returned (.agg (Qaw q)) /\ Below wr.heap.size wr w' /\ SameP q ps[n] /\ POwn w' q (fun z => wr.heap.size <= z /\ z < w'.heap.size)) := (toPeer_any ps[n] (Hf.out _ (List.getElem_mem hlt)) wr ((HE.out _ (List.getElem_mem hlt)).below hbl)).mono fun e w' h => by
     obtain ⟨b1, b2, b3, b4, b6, b7, x', y', hs', e1, h1, h2, h3, h4, h5, h6⟩ := h
     refine ⟨{ ps[n] with A := some ⟨b1, 0, none⟩, cap := ps[n].l.length, x := x', vA := some ⟨b2, 0, none⟩, vc := ps[n].vs.length, nA := some ⟨b3, 0, none⟩, nc := ps[n].ns.length, pA := some ⟨b4, 0, none⟩, pc := ps[n].ps.length, y := y', dA := some ⟨b6, 0, none⟩, dc := ps[n].db.length, hA := some ⟨b7, 0, none⟩, hc := ps[n].hs.length, hs := hs' }, ?_, h6, ⟨rfl, rfl, rfl, rfl, rfl, rfl, h1, rfl, rfl, rfl, rfl, rfl, h2, rfl, rfl, h3⟩, h5⟩
     rw [e1]
     simp only [Qaw, Qhd, heldV, h4]
    have HT := hidP (show wr.there w.heap.size (n * 26) 26 from fun j hj => by have := hgr.out.th (n * 26 + j) (by have : (n + 1) * 26 <= ps.length * 26 := Nat.mul_le_mul_right _ hlt; show n * 26 + j < ps.length * 26; omega); simpa using this)
    have hi0 : (0 : Int) <= (n : Int) := by omega
    have hi1 : (n : Int) < (ps.length : Int) := by omega
    go_upto_region 5 with fail
    refine wp_region_lit ?_
    iterate 15 go_step
    refine wpList_load_mid (by rfl) 97 _ (by rfl) b (o + n * 26) (by rfl) (Cel.cs ps[n]) _ HR.out Tryz.underlying97 rfl sizePL ?_
    go_wp2_with (refine HS.out.mono ?_)
    rintro e w1 ⟨q, rfl, g1, hq, ho⟩
    have s1 := g1.size
    have hst := hgr.out.snoc pcP_firm (by have := hpl.out; omega) g1 (y := q) ho (fun x hx => hx)
    rw [hpl.out] at hst
    have hsn := SameN.snoc hlt hpl.out hsame.out hq
    have hte := Qaz HT.out hsz g1
    dsimp only
    apply_assumption
    iterate 3 go_step
    refine wpList_store_mid rfl 67 _ _ rfl w.heap.size (n * 26) (Qaw q) rfl rfl hte Qcu (Qb3 q) ?_
    refine wpList_nil ?_
    have hbl2 : Below w.heap.size w (w1.setCells w.heap.size (n * 26) (Qaw q).toList) := (via0 g1 hbl).trans ((Offp.of_only (Qcv w1 w.heap.size (Qaw q).toList (n * 26))).toBelow (fun z hz => by omega) (by omega))
    have hs2 := (Qcv w1 w.heap.size (Qaw q).toList (n * 26)).size
    have HH := hidP (And.intro hst (And.intro hsn hbl2))
    clear hst hsn hbl2 hte
    go_wp2
    exact ⟨⟨n + 1, _, by go_num, by omega, HH.out.2.2, by omega, by simp [Hid, hpl.out], HH.out.1, HH.out.2.1⟩, by simp [intOf]; omega⟩
  . have e : ps.take n = ps := List.take_of_length_le (by omega)
    go_wp2
    go_ret
    have hs := hsame.out
    rw [e] at hs
    exact ⟨rfl, hbl, pre, hgr.out, hs⟩
theorem Qg5 (A A' : Option Addr) (cap cap' : Nat) (xs ys : List PC) (hl : ys.length <= 1048576) (hs : SameN xs ys) (hf : ∀ p ∈ ys, PFit p) (w : World) (hA : At w A xs) (hE : EachN w xs) (hA' : At w A' ys) (hE' : EachN w ys) :
 Calls Tryz.prog 27 #[.slice A ys.length cap, .slice A' ys.length cap'] w fun e w' => e = .returned (.bool true) /\ Below w.heap.size w w' := by
 have HA := hidP (And.intro hA hE)
 have HA' := hidP (And.intro hA' hE')
 have Hs := hidP hs
 have Hf := hidP hf
 clear hA hA' hE hE' hs hf
 go_enter Tryz.func27, Tryz.ntmps27
 go_wp2
 go_loopw [5] (fun i w' => ∃ (n : Nat), i = .int .i64 (n : Int) /\ n <= ys.length /\ Below w.heap.size w w') (fun i _ => ys.length - (intOf i).toNat)
 case atStart => exact ⟨0, rfl, by omega, Below.refl _ _⟩
 case round =>
  obtain ⟨n, rfl, hn, hbl⟩ := hrel
  by_cases hlt : n < ys.length
  . have hla : n < xs.length := by rw [Hs.out.1]; exact hlt
    obtain ⟨b, o, rfl, hbs, hin⟩ : ∃ b o, A = some ⟨b, o, none⟩ /\ b < w.heap.size /\ In w b o xs := by
     rcases HA.out.1 with h | h
     . subst h; simp at hla
     . exact h
    obtain ⟨b', o', rfl, hbs', hin'⟩ : ∃ b o, A' = some ⟨b, o, none⟩ /\ b < w.heap.size /\ In w b o ys := by
     rcases HA'.out.1 with h | h
     . subst h; simp at hlt
     . exact h
    have hb1 : b < wr.heap.size := Nat.lt_of_lt_of_le hbs hbl.size
    have hb2 : b' < wr.heap.size := Nat.lt_of_lt_of_le hbs' hbl.size
    have R1 := hidP ((hin.below hbs hbl).el n hla)
    have R2 := hidP ((hin'.below hbs' hbl).el n hlt)
    have hi0 : (0 : Int) <= (n : Int) := by omega
    have hi1 : (n : Int) < (ys.length : Int) := by omega
    have HC : Hid (∀ W : World, Below w.heap.size w W -> Calls Tryz.prog 62 #[.agg (Cel.cs xs[n]).toArray, .agg (Cel.cs ys[n]).toArray] W fun e w' => e = .returned (.bool true) /\ Below W.heap.size W w') := fun W g => eqQ (Hf.out _ (List.getElem_mem hlt)) (Hs.out.2 n hla hlt) (SameP.refl _) ((HA.out.2 _ (List.getElem_mem hla)).below g) ((HA'.out.2 _ (List.getElem_mem hlt)).below g)
    go_wp2_with fail
    refine wp_region_noPanic ?_
    refine wp_region_held_drew (S := (fun (W : World) => W.rangeAt b (o + n * 26) (Cel.cs xs[n]) /\ W.rangeAt b' (o' + n * 26) (Cel.cs ys[n]))) (by kernel_rfl) ?_ (fun hH => ?_)
    . exact ⟨R1.out, R2.out⟩
    refine zt1 0 ?_; refine ztn (h := ?_); try simp only [zX,zY]
    refine zte ?_
    refine zt1 1 ?_; refine ztn (h := ?_); try simp only [zX,zY]
    refine zte ?_
    refine zt1 2 ?_; refine ztn (h := ?_); try simp only [zX,zY]
    refine zte ?_
    refine zt1 3 ?_; refine ztn (hy := fun w' hSw => Qce rfl rfl hSw.1 Tryz.underlying67 Qcu) (h := ?_); try simp only [zX,zY]
    refine zte ?_
    refine zt1 4 ?_; refine ztn (h := ?_); try simp only [zX,zY]
    refine zte ?_
    refine zt1 5 ?_; refine ztn (h := ?_); try simp only [zX,zY]
    refine zte ?_
    refine zt1 6 ?_; refine ztn (h := ?_); try simp only [zX,zY]
    refine zte ?_
    refine zt1 7 ?_; refine ztn (hy := fun w' hSw => Qce rfl rfl hSw.2 Tryz.underlying67 Qcu) (h := ?_); try simp only [zX,zY]
    refine zte ?_
    refine zR1 8 (fun K hK => ?_)
    simp only [zG]
    go_simp
    refine (HC.out _ hbl.drew).mono ?_; rintro e w2 ⟨rfl, g1⟩
    refine hK.out _ _ ⟨Qee R1.out (via0 g1 (Below.drew (Below.refl _ _))) hb1, Qee R2.out (via0 g1 (Below.drew (Below.refl _ _))) hb2⟩ fun hH => ?_; clear hK K; try simp only [zX,zY]
    refine zt1 9 ?_; refine ztn (h := ?_); try simp only [zX,zY]
    refine zte ?_
    refine zdn ?_
    clear hH
    go_wp2
    exact ⟨⟨n + 1, by go_num, by omega, via0 g1 hbl.drew⟩, by simp [intOf]; omega⟩
  . go_wp2
    go_ret
    exact ⟨rfl, hbl⟩
theorem openPC1 {H : Type} {enc : TypeId × Value -> H} {w : World} {base n : Nat} {spare : Nat -> Bool} {held : Bool} {a : Addr} {cs : List Value} {y : DataW H × List MemPlace}
 (h1 : w.cells? base a 26 = some cs) (h2 : DataW.trod enc Tryz.prog w base spare held n 97 cs = some y) :
 ∃ x : PC, (PRight x /\ PAt w x) /\ a.spot = none /\ a.block < w.heap.size /\ ∀ j v, (Cel.cs x)[j]? = some v -> w.cell? ⟨a.block, a.off + j, none⟩ = some v := by
 obtain ⟨_, hlen, hc⟩ := World.cells?_some h1
 obtain ⟨p, rfl, hr, hat⟩ := openPeer0 hlen h2
 have q0 := hc 0 (by omega)
 have hsp : a.spot = none := by
  cases hs : a.spot with
  | none => rfl
  | some s => exfalso; simp [Addr.add, World.cell?, hs] at q0; split at q0<;>simp at q0
 have hlt : a.block < w.heap.size := by
  rw [show a.add 0 = a from rfl] at q0
  unfold World.cell? at q0
  cases hh : w.heap[a.block]? with
  | none => simp [hh] at q0
  | some ob => exact (Array.getElem?_eq_some_iff.1 hh).1
 refine ⟨p, ⟨hr, hat⟩, hsp, hlt, ?_⟩
 intro j v hv
 have hj : j < 26 := (List.getElem?_eq_some_iff.1 hv).1
 have q := hc j hj
 have e : a.add j = ⟨a.block, a.off + j, none⟩ := by
  obtain ⟨b, o, s⟩ := a
  simp only at hsp
  subst hsp
  exact Addr.add_mid b o j
 rw [e] at q
 rw [q]
 exact hv
theorem openPeerS {H : Type} {enc : TypeId × Value -> H} {W : World} {base n : Nat} {spare : Nat -> Bool} {held : Bool} {c : Value} {y : DataW H × List MemPlace}
 (g : DataW.trod enc Tryz.prog W base spare held n 24 [c] = some y) :
 ∃ (A : Option Addr) (cap : Nat) (l : List PC), c = .slice A l.length cap /\ l.length <= 9223372036854775807 /\ (∀ x ∈ l, PRight x) /\ At W A l /\ EachN W l := by
 rcases open_slice Tryz.underlying24 g with ⟨e2, _⟩ | ⟨a, len, cap, m, n', D, Pl, e2, _, hl, hm, hmm, _, hx⟩
 . simp at e2
   subst e2
   exact ⟨none, 0, [], rfl, by simp, by simp, .inl rfl, by simp [EachN]⟩
 . simp at e2
   subst e2
   have hle : len <= m := by rw [hmm]; split<;>omega
   rw [cellsPCL] at hx
   obtain ⟨X, hX⟩ := choose_lt (α := PC) (p := fun i x => (PRight x /\ PAt W x) /\ (a.add (i * 26)).spot = none /\ (a.add (i * 26)).block < W.heap.size /\ ∀ j v, (Cel.cs x)[j]? = some v -> W.cell? ⟨(a.add (i * 26)).block, (a.add (i * 26)).off + j, none⟩ = some v)
    (n := len) (fun i hi => by obtain ⟨cs', h1, h2⟩ := hx i (by omega); exact openPC1 h1 h2)
   obtain ⟨l, rfl, hR, hat⟩ := Qdo (α := PC) (by decide) (R := fun x => PRight x /\ PAt W x) hX
   exact ⟨some a, cap, l, rfl, by simp [maxLen] at hm ⊢; omega, fun x hx => (hR x hx).1, hat, fun x hx => (hR x hx).2⟩
end Go.Proofs.YtkmkldjipihceaaGreat.Gen
