/-
  What a command makes of a keeper, as content alone; what stays so: the bounds of its numbers and lists. No condition.
-/
import Derived.Test.YtlniljigeemnoaaGreatGrpMk2
set_option linter.unusedVariables false
set_option linter.unusedSimpArgs false
set_option maxRecDepth 100000
set_option maxHeartbeats 8000000
namespace Go.Proofs.YtlniljigeemnoaaGreat.Gen
open ChangeShapes WideShapes ChangeAt RowKit Joins Deep Base
open Items (It)
structure Cq where
  who : Int
  seq : Int
  op : Int
  a : Int
  b : Int
  c : Int
  key : ByteArray
  text : ByteArray
def mofQ (l : List PM) (row who : Int) : PM := match l.find? (fun x => x.row == row && x.who == who) with
  | some x => x
  | none => ⟨row, who, 0, -1, []⟩
theorem mofQ_p (l : List MC) (row who : Int) : mofP l row who = mofQ (l.map MC.p) row who := by
 unfold mofP mofQ
 rw [List.find?_map]
 have : ((fun x : PM => x.row == row && x.who == who) ∘ MC.p) = (fun x : MC => x.row == row && x.who == who) := by funext x; rfl
 rw [this]
 cases l.find? (fun x : MC => x.row == row && x.who == who)<;>rfl
theorem mofQ_mem {l : List PM} {row who : Int} : mofQ l row who ∈ l ∨ mofQ l row who = ⟨row, who, 0, -1, []⟩ := by
 unfold mofQ
 cases h : l.find? (fun x => x.row == row && x.who == who) with
 | none => exact .inr rfl
 | some x => exact .inl (List.mem_of_find?_eq_some h)
def noAn (code n : Int) : An := ⟨code, n, ⟨#[]⟩, ⟨#[]⟩⟩
def rowQ (p : PK) (n : Nat) : PR := p.rs.getD n ⟨0, 0, []⟩
def grpQ (p : PK) (n : Nat) : PG := p.gs.getD n ⟨0, [], [], []⟩
def putQ (p : PK) (wi : Int) (c : Cq) : PK × An :=
  let n := c.a.toNat
  let r := rowQ p n
  let m := mofQ p.ms c.a c.who
  if rpOk r.start r.next r.its c.key c.text c.who p.time then
    ({ p with rs := p.rs.set n ⟨r.start, rpX r.start r.next r.its c.key c.text c.who p.time, rpL r.start r.next r.its c.key c.text c.who p.time⟩, ms := setS p.ms ⟨m.row, m.who, putE m.epoch m.last m.ms c.c c.b, putS m.epoch m.last m.ms c.c c.b, putM wi m.epoch m.last m.ms c.c c.b (rpN r.start r.next r.its c.key c.text c.who p.time)⟩ }, noAn 0 (rpN r.start r.next r.its c.key c.text c.who p.time))
  else (p, noAn 8 0)
def epochQ (p : PK) (c : Cq) : PK × An :=
  let m := mofQ p.ms c.a c.who
  if c.b <= m.epoch then (p, noAn 4 m.epoch) else ({ p with ms := setS p.ms ⟨c.a, c.who, c.b, -1, []⟩ }, noAn 0 c.b)
def getA (r : PR) (off : Int) : An :=
  if Items.getHow r.start r.its off = 1 then noAn 6 0 else if Items.getHow r.start r.its off = 2 then noAn 7 0
  else ⟨0, (Items.getIt r.start r.its off).off, (Items.getIt r.start r.its off).key, (Items.getIt r.start r.its off).text⟩
def Qc9 (wi le ke : Int) (p : PK) (c : Cq) : PK × An :=
  let n := c.a.toNat
  let r := rowQ p n
  let m := mofQ p.ms c.a c.who
  if c.op = 1 then
    (if askC m.epoch m.last m.ms c.c c.b = 0 then putQ p wi c
     else if askC m.epoch m.last m.ms c.c c.b = 1 then (p, noAn 1 (askO m.epoch m.last m.ms c.c c.b))
     else (p, noAn (askC m.epoch m.last m.ms c.c c.b) 0))
  else if c.op = 3 then epochQ p c
  else if c.op = 2 then (p, getA r c.b)
  else if c.op = 9 then
    ({ p with rs := p.rs.set n ⟨(Items.trimF r.next le ke r.its.length r.start r.its).1, r.next, (Items.trimF r.next le ke r.its.length r.start r.its).2⟩ }, noAn 0 (Items.trimF r.next le ke r.its.length r.start r.its).1)
  else ({ p with rs := p.rs.set n ⟨r.start, r.next, Items.packL r.start r.next le r.its⟩ }, noAn 0 r.start)
def Qd4 (ro : Int) (p : PK) (c : Cq) : PK × An :=
  let n := c.a.toNat
  let g := grpQ p n
  if c.op = 4 then ({ p with gs := p.gs.set n ⟨Qe8 g.gen g.m c.who, Qdv g.m c.who, Qe9 g.m g.b c.who p.time, g.o⟩ }, noAn 0 (Qe8 g.gen g.m c.who))
  else if c.op = 5 then ({ p with gs := p.gs.set n ⟨Qdh g.gen g.m c.who, Qce g.m c.who g.m, Qce g.m c.who g.b, g.o⟩ }, noAn 0 (Qdh g.gen g.m c.who))
  else if c.op = 6 then
    (if Qeh g.m g.o c.who c.b c.c then { p with gs := p.gs.set n ⟨g.gen, g.m, g.b, Qgn g.m g.o c.who c.b c.c⟩ } else p, if Qeh g.m g.o c.who c.b c.c then noAn 0 c.c else noAn 9 0)
  else (p, if ro <= c.b then noAn 5 0 else noAn 0 (g.o.getD c.b.toNat 0))
def Qcq (ro wi le ke : Int) (p : PK) (c : Cq) : PK × An :=
  if c.op = 8 then ({ p with time := min 100000 (p.time + c.a), gs := p.gs.map (tkP (min 100000 (p.time + c.a))) }, noAn 0 (min 100000 (p.time + c.a)))
  else if inB c.op 4 7 = true then (if 2 <= c.a then (p, noAn 9 0) else Qd4 ro p c)
  else if ro <= c.a then (p, noAn 5 0) else Qc9 wi le ke p c
def doQ (ro wi le ke : Int) (p : PK) (c : Cq) : PK × An :=
  if c.who < 0 then (p, noAn 0 0)
  else if c.seq <= p.ds.getD c.who.toNat 0 then (p, p.ls.getD c.who.toNat zAn)
  else ({ (Qcq ro wi le ke p c).1 with ds := (Qcq ro wi le ke p c).1.ds.set c.who.toNat c.seq, ls := (Qcq ro wi le ke p c).1.ls.set c.who.toNat (Qcq ro wi le ke p c).2 }, (Qcq ro wi le ke p c).2)
def In2 (x hi : Int) : Prop := 0 <= x /\ x <= hi
structure MpR (m : PM) : Prop where
  row : In2 m.row 100000
  who : In2 m.who 3
  epoch : In2 m.epoch 100000
  last : -1 <= m.last /\ m.last <= 100000
  ms : ∀ y ∈ m.ms, In2 y.seq 100000 /\ In2 y.off 100000
  len : m.ms.length <= 5
structure GpR (R N : Nat) (g : PG) : Prop where
  gen : In2 g.gen 100000
  m : ∀ y ∈ g.m, In2 y 3
  b : ∀ y ∈ g.b, In2 y 100000
  o : ∀ y ∈ g.o, In2 y 100000
  same : g.b.length = g.m.length
  len : g.m.length <= N
  ol : g.o.length = R
structure AnP (a : An) : Prop where
  code : In2 a.code 9
  n : -1 <= a.n /\ a.n <= 100000
  key : a.key.size <= 30
  text : a.text.size <= 30
structure Kin (R N : Nat) (p : PK) : Prop where
  rl : p.rs.length = R
  ri : ∀ r ∈ p.rs, Items.rowB r.start r.next r.its = true
  ml : p.ms.length <= N
  mi : ∀ m ∈ p.ms, MpR m
  gl : p.gs.length = 2
  gi : ∀ g ∈ p.gs, GpR R N g
  t : In2 p.time 100000
  dl : p.ds.length = 4
  di : ∀ y ∈ p.ds, In2 y 100000
  ll : p.ls.length = 4
  li : ∀ a ∈ p.ls, AnP a
structure CqR (x : Cq) : Prop where
  who : In2 x.who 3
  seq : In2 x.seq 100000
  op : 1 <= x.op /\ x.op <= 10
  a : In2 x.a 100000
  b : In2 x.b 100000
  c : In2 x.c 100000
  key : x.key.size <= 30
  text : x.text.size <= 30
theorem GpR.mono {R N M : Nat} {g : PG} (h : GpR R N g) (hN : N <= M) : GpR R M g := ⟨h.gen, h.m, h.b, h.o, h.same, Nat.le_trans h.len hN, h.ol⟩
theorem Kin.mono {R N M : Nat} {p : PK} (h : Kin R N p) (hN : N <= M) : Kin R M p := ⟨h.rl, h.ri, Nat.le_trans h.ml hN, h.mi, h.gl, fun g hg => (h.gi g hg).mono hN, h.t, h.dl, h.di, h.ll, h.li⟩
theorem Qcc {code n : Int} (h : In2 code 9) (hn : -1 <= n /\ n <= 100000) : AnP (noAn code n) := ⟨h, hn, by show (0 : Nat) <= 30; omega, by show (0 : Nat) <= 30; omega⟩
theorem zAn_p : AnP zAn := ⟨⟨by decide, by decide⟩, ⟨by decide, by decide⟩, by decide, by decide⟩
theorem Qds {α : Type} {l : List α} {n : Nat} {d : α} (h : n < l.length) : l.getD n d ∈ l := by simp [h]
theorem setS_mem {l : List PM} {m x : PM} (h : x ∈ setS l m) : x ∈ l ∨ x = m := by
 have key : ∀ (k : List PM) (s : List PM × Bool), x ∈ (k.foldl (Qdf m) s).1 -> x ∈ s.1 ∨ x ∈ k ∨ x = m := by
  intro k
  induction k with
  | nil => intro s hs; exact .inl hs
  | cons a k ih =>
   intro s hs
   rcases ih _ hs with h1 | h1 | h1
   . unfold Qdf at h1
     split at h1
     . split at h1
       . exact .inl h1
       . rcases List.mem_append.1 h1 with h2 | h2
         . exact .inl h2
         . exact .inr (.inr (by simpa using h2))
     . split at h1
       . simp only [List.mem_append, List.mem_singleton] at h1
         rcases h1 with (h2 | h2) | h2
         . exact .inl h2
         . exact .inr (.inr h2)
         . exact .inr (.inl (by simp [h2]))
       . rcases List.mem_append.1 h1 with h2 | h2
         . exact .inl h2
         . exact .inr (.inl (by rw [List.mem_singleton] at h2; simp [h2]))
   . exact .inr (.inl (by simp [h1]))
   . exact .inr (.inr h1)
 unfold setS at h
 split at h
 . rcases key l ([], false) h with h1 | h1 | h1
   . simp at h1
   . exact .inl h1
   . exact .inr h1
 . rcases List.mem_append.1 h with h | h
   . rcases key l ([], false) h with h1 | h1 | h1
     . simp at h1
     . exact .inl h1
     . exact .inr h1
   . exact .inr (by simpa using h)
theorem setS_len (l : List PM) (m : PM) : (setS l m).length <= l.length + 1 := by
 have key : ∀ (k : List PM) (s : List PM × Bool), (k.foldl (Qdf m) s).1.length + (if (k.foldl (Qdf m) s).2 then 0 else 1) <= s.1.length + (if s.2 then 0 else 1) + k.length := by
  intro k
  induction k with
  | nil => intro s; exact Nat.le_refl _
  | cons a k ih =>
   intro s
   refine Nat.le_trans (ih _) ?_
   have : (Qdf m s a).1.length + (if (Qdf m s a).2 then 0 else 1) <= s.1.length + (if s.2 then 0 else 1) + 1 := by
    obtain ⟨s1, s2⟩ := s
    unfold Qdf
    cases s2<;>simp only [Bool.false_eq_true, if_false, if_true]<;>(repeat' split)<;>simp_all<;>omega
   simp only [List.foldl_cons, List.length_cons]
   omega
 have h := key l ([], false)
 unfold setS Qdw
 simp only [List.length_nil, Bool.false_eq_true, if_false] at h
 split
 . rename_i h2
   rw [if_pos h2] at h
   omega
 . rename_i h2
   rw [if_neg h2] at h
   simp only [List.length_append, List.length_singleton]
   omega
theorem mofQ_R {R N : Nat} {p : PK} (h : Kin R N p) {c : Cq} (hc : CqR c) : MpR (mofQ p.ms c.a c.who) := by
 rcases mofQ_mem (l := p.ms) (row := c.a) (who := c.who) with h1 | h1
 . exact h.mi _ h1
 . rw [h1]
   exact ⟨hc.a, hc.who, ⟨by show (0 : Int) <= 0; omega, by show (0 : Int) <= 100000; omega⟩, ⟨by show (-1 : Int) <= -1; omega, by show (-1 : Int) <= 100000; omega⟩, by simp, by simp⟩
theorem Kin.setR {R N : Nat} {p : PK} (h : Kin R N p) (n : Nat) (r : PR) (hr : Items.rowB r.start r.next r.its = true) : Kin R N { p with rs := p.rs.set n r } :=
 ⟨by simpa using h.rl, fun x hx => by rcases List.mem_or_eq_of_mem_set hx with h1 | rfl; exact h.ri x h1; exact hr, h.ml, h.mi, h.gl, h.gi, h.t, h.dl, h.di, h.ll, h.li⟩
theorem Kin.setM {R N : Nat} {p : PK} (h : Kin R N p) (m : PM) (hm : MpR m) : Kin R (N + 1) { p with ms := setS p.ms m } :=
 ⟨h.rl, h.ri, Nat.le_trans (setS_len _ _) (Nat.succ_le_succ h.ml), fun x hx => by rcases setS_mem hx with h1 | rfl; exact h.mi x h1; exact hm, h.gl, fun g hg => (h.gi g hg).mono (Nat.le_succ _), h.t, h.dl, h.di, h.ll, h.li⟩
theorem Kin.setG {R N M : Nat} {p : PK} (h : Kin R N p) (hN : N <= M) (n : Nat) (g : PG) (hg : GpR R M g) : Kin R M { p with gs := p.gs.set n g } :=
 ⟨h.rl, h.ri, Nat.le_trans h.ml hN, h.mi, by simpa using h.gl, fun x hx => by rcases List.mem_or_eq_of_mem_set hx with h1 | rfl; exact (h.gi x h1).mono hN; exact hg, h.t, h.dl, h.di, h.ll, h.li⟩
theorem Kin.setDL {R N : Nat} {p : PK} (h : Kin R N p) (n : Nat) (s : Int) (hs : In2 s 100000) (a : An) (ha : AnP a) : Kin R N { p with ds := p.ds.set n s, ls := p.ls.set n a } :=
 ⟨h.rl, h.ri, h.ml, h.mi, h.gl, h.gi, h.t, by simpa using h.dl, fun x hx => by rcases List.mem_or_eq_of_mem_set hx with h1 | rfl; exact h.di x h1; exact hs, by simpa using h.ll, fun x hx => by rcases List.mem_or_eq_of_mem_set hx with h1 | rfl; exact h.li x h1; exact ha⟩
theorem rowQ_R {R N : Nat} {p : PK} (h : Kin R N p) {n : Nat} (hn : n < R) : Items.rowB (rowQ p n).start (rowQ p n).next (rowQ p n).its = true :=
 h.ri _ (Qds (by rw [h.rl]; exact hn))
theorem grpQ_R {R N : Nat} {p : PK} (h : Kin R N p) {n : Nat} (hn : n < 2) : GpR R N (grpQ p n) := h.gi _ (Qds (by rw [h.gl]; exact hn))
theorem Qcs {st nx : Int} {l : List It} (h : Items.rowB st nx l = true) : In2 st 100000 /\ In2 nx 100000 /\ l.length <= 80 /\ ∀ x ∈ l, In2 x.off 100000 /\ In2 x.who 3 /\ In2 x.time 100000 /\ x.key.size <= 30 /\ x.text.size <= 30 := by
 obtain ⟨h1, h2, h3, h4, h5, h6⟩ := (Items.rowB_iff st nx l).1 h
 refine ⟨⟨h3, by omega⟩, ⟨by omega, h5⟩, h6, fun x hx => ?_⟩
 obtain ⟨g1, g2, g3⟩ := h1 x hx
 simp only [Items.itemB, Items.partB, Items.textB, Items.inB, Bool.and_eq_true, decide_eq_true_eq] at g1
 exact ⟨⟨by omega, by omega⟩, ⟨g1.1.2.1, g1.1.2.2⟩, ⟨g1.2.1, g1.2.2⟩, g1.1.1.1.2, g1.1.1.2.2⟩
theorem Qht {α : Type} {l : List α} {n : Nat} {d : α} (h : l.length <= n) : l.getD n d = d := by simp [List.getD_eq_getElem?_getD, List.getElem?_eq_none h]
theorem rp_right {st nx : Int} {l : List It} {key text : ByteArray} {who time : Int} (h : Items.rowB st nx l = true) : Items.rowB st (rpX st nx l key text who time) (rpL st nx l key text who time) = true := by
 unfold rpX rpL
 split
 . rename_i h1
   unfold rpOk Items.putB at h1
   rw [Bool.and_eq_true] at h1
   exact h1.2
 . exact h
theorem rpN_R {st nx : Int} {l : List It} {key text : ByteArray} {who time : Int} (h : Items.rowB st nx l = true) : In2 (rpN st nx l key text who time) 100000 := by
 unfold rpN
 split
 . exact (Qcs h).2.1
 . exact ⟨by omega, by omega⟩
theorem putM_R {wi : Int} (hw : 1 <= wi /\ wi <= 5) {m : PM} (hm : MpR m) {c : Cq} (hc : CqR c) {off : Int} (ho : In2 off 100000) : MpR ⟨m.row, m.who, putE m.epoch m.last m.ms c.c c.b, putS m.epoch m.last m.ms c.c c.b, putM wi m.epoch m.last m.ms c.c c.b off⟩ := by
 refine ⟨hm.row, hm.who, ?_, ?_, ?_, ?_⟩
 . show In2 (putE _ _ _ _ _) _
   unfold putE
   split
   . exact hc.c
   . exact hm.epoch
 . show -1 <= putS _ _ _ _ _ /\ putS _ _ _ _ _ <= 100000
   unfold putS
   split
   . have := hc.b; unfold In2 at this; omega
   . exact hm.last
 . intro y hy
   simp only [putM] at hy
   split at hy
   . have hy2 := List.mem_of_mem_drop hy
     rcases List.mem_append.1 hy2 with h | h
     . unfold putB at h
       split at h
       . simp at h
       . exact hm.ms y h
     . rw [List.mem_singleton] at h
       subst h
       exact ⟨hc.b, ho⟩
   . exact hm.ms y hy
 . show (putM _ _ _ _ _ _ _).length <= 5
   unfold putM
   split
   . unfold Qhk
     rw [List.length_drop]
     have hz : wi.toNat <= 5 := by omega
     have hl : (putB m.epoch m.ms c.c ++ [(⟨c.b, off⟩ : Mk)]).length <= 6 := by
      have := hm.len
      unfold putB
      split<;>simp<;>omega
     omega
   . exact hm.len
theorem upF_R {g : Int} (h : In2 g 100000) : In2 (upF g) 100000 := by
 obtain ⟨h1, h2⟩ := h
 unfold upF
 split
 . exact ⟨h1, h2⟩
 . exact ⟨by omega, by omega⟩
theorem Qhr (n : Nat) (x : Int) (l : List Int) : (Qcx n x l).length = l.length + 1 := by unfold Qcx; simp; omega
theorem Qhq {n : Nat} {x y : Int} {l : List Int} (h : y ∈ Qcx n x l) : y = x ∨ y ∈ l := by
 unfold Qcx at h
 rcases List.mem_append.1 h with h | h
 . exact .inr (List.mem_of_mem_take h)
 . rcases List.mem_cons.1 h with h | h
   . exact .inl h
   . exact .inr (List.mem_of_mem_drop h)
theorem join_R {R N : Nat} {g : PG} (h : GpR R N g) {who time : Int} (hw : In2 who 3) (ht : In2 time 100000) : GpR R (N + 1) ⟨Qe8 g.gen g.m who, Qdv g.m who, Qe9 g.m g.b who time, g.o⟩ := by
 cases hm : mAt g.m who with
 | none =>
  refine ⟨?_, ?_, ?_, h.o, ?_, ?_, h.ol⟩
  . show In2 (Qe8 _ _ _) _; simp only [Qe8, hm]; exact upF_R h.gen
  . intro y hy; simp only [Qdv, hm] at hy; rcases Qhq hy with rfl | h1; exact hw; exact h.m y h1
  . intro y hy; simp only [Qe9, hm] at hy; rcases Qhq hy with rfl | h1; exact ht; exact h.b y h1
  . show (Qe9 _ _ _ _).length = (Qdv _ _).length; simp only [Qe9, Qdv, hm, Qhr, h.same]
  . show (Qdv _ _).length <= _; simp only [Qdv, hm, Qhr]; have := h.len; omega
 | some i =>
  refine ⟨?_, ?_, ?_, h.o, ?_, ?_, h.ol⟩
  . show In2 (Qe8 _ _ _) _; simp only [Qe8, hm]; exact h.gen
  . intro y hy; simp only [Qdv, hm] at hy; exact h.m y hy
  . intro y hy; simp only [Qe9, hm] at hy; rcases List.mem_or_eq_of_mem_set hy with h1 | rfl; exact h.b y h1; exact ht
  . show (Qe9 _ _ _ _).length = (Qdv _ _).length; simp only [Qe9, Qdv, hm, List.length_set]; exact h.same
  . show (Qdv _ _).length <= _; simp only [Qdv, hm]; have := h.len; omega
theorem leave_R {R N : Nat} {g : PG} (h : GpR R N g) {who : Int} : GpR R N ⟨Qdh g.gen g.m who, Qce g.m who g.m, Qce g.m who g.b, g.o⟩ := by
 cases hm : mAt g.m who with
 | none =>
  have e : ∀ l, Qce g.m who l = l := fun l => by simp only [Qce, hm]
  have e2 : Qdh g.gen g.m who = g.gen := by simp only [Qdh, hm]
  rw [e, e, e2]
  exact h
 | some i =>
  have hi := mAt_lt hm
  have hs := h.same
  refine ⟨?_, ?_, ?_, h.o, ?_, ?_, h.ol⟩
  . show In2 (Qdh _ _ _) _; simp only [Qdh, hm]; exact upF_R h.gen
  . intro y hy; simp only [Qce, hm] at hy; exact h.m y (List.mem_of_mem_eraseIdx hy)
  . intro y hy; simp only [Qce, hm] at hy; exact h.b y (List.mem_of_mem_eraseIdx hy)
  . show (Qce _ _ _).length = (Qce _ _ _).length; simp only [Qce, hm, List.length_eraseIdx]; rw [hs]
  . show (Qce _ _ _).length <= _; simp only [Qce, hm, List.length_eraseIdx]; have := h.len; split<;>omega
theorem mark_R {R N : Nat} {g : PG} (h : GpR R N g) {who row off : Int} (ho : In2 off 100000) : GpR R N ⟨g.gen, g.m, g.b, Qgn g.m g.o who row off⟩ := by
 refine ⟨h.gen, h.m, h.b, ?_, h.same, h.len, ?_⟩
 . intro y hy
   simp only [Qgn] at hy
   split at hy
   . rcases List.mem_or_eq_of_mem_set hy with h1 | rfl
     . exact h.o y h1
     . exact ho
   . exact h.o y hy
 . show (Qgn _ _ _ _ _).length = R
   unfold Qgn
   split
   . rw [List.length_set]; exact h.ol
   . exact h.ol
theorem tick_R {R N : Nat} {g : PG} (h : GpR R N g) (T : Int) : GpR R N (tkP T g) := by
 have hs := h.same
 have hx : Qc5 g.m g.b = [] := by unfold Qc5; exact List.drop_of_length_le (by omega)
 have hmb : ∀ x ∈ mbs g.m g.b, x.who ∈ g.m /\ x.beat ∈ g.b /\ x.has = true := by
  intro x hx
  unfold mbs at hx
  obtain ⟨i, hi, rfl⟩ := List.mem_map.1 hx
  rw [List.mem_range] at hi
  have hi2 : i < g.b.length := by omega
  refine ⟨?_, ?_, ?_⟩
  . show g.m.getD i 0 ∈ g.m; exact Qds hi
  . show g.b.getD i 0 ∈ g.b; exact Qds hi2
  . show decide (i < g.b.length) = true; exact decide_eq_true hi2
 have hk : ∀ x ∈ Qc3 T (mbs g.m g.b), x ∈ mbs g.m g.b := fun x hx => (List.mem_filter.1 hx).1
 have hbf : Qcd (Qc3 T (mbs g.m g.b)) = (Qc3 T (mbs g.m g.b)).map Mb.beat := by
  unfold Qcd
  rw [List.filter_eq_self.2 (fun x hx => (hmb x (hk x hx)).2.2)]
 have hl : (Qc3 T (mbs g.m g.b)).length <= g.m.length := by
  have : (Qc3 T (mbs g.m g.b)).length <= (mbs g.m g.b).length := List.length_filter_le _ _
  rw [Qbj] at this
  exact this
 refine ⟨?_, ?_, ?_, h.o, ?_, ?_, h.ol⟩
 . show In2 (Qea _ _ _ _) _
   unfold Qea
   split
   . exact upF_R h.gen
   . exact h.gen
 . intro y hy
   simp only [tkP, Qet] at hy
   obtain ⟨x, hx, rfl⟩ := List.mem_map.1 hy
   exact h.m _ (hmb x (hk x hx)).1
 . intro y hy
   simp only [tkP, Qfh, hx, List.append_nil, hbf] at hy
   obtain ⟨x, hx, rfl⟩ := List.mem_map.1 hy
   exact h.b _ (hmb x (hk x hx)).2.1
 . show (Qfh _ _ _).length = (Qet _ _ _).length
   simp only [Qfh, Qet, hx, List.append_nil, hbf, List.length_map]
 . show (Qet _ _ _).length <= N
   simp only [Qet, List.length_map]
   exact Nat.le_trans hl h.len
theorem get_R {r : PR} (h : Items.rowB r.start r.next r.its = true) (off : Int) : AnP (getA r off) := by
 unfold getA
 split
 . exact Qcc ⟨by omega, by omega⟩ ⟨by omega, by omega⟩
 . split
   . exact Qcc ⟨by omega, by omega⟩ ⟨by omega, by omega⟩
   . have hg : Items.getIt r.start r.its off ∈ r.its ∨ Items.getIt r.start r.its off = Items.It.zero := by
      unfold Items.getIt
      split
      . exact .inr rfl
      . unfold Items.findFrom
        cases hf : (List.drop 0 r.its).find? (fun x => decide (off <= x.off)) with
        | none => exact .inr rfl
        | some x => exact .inl (by have := List.mem_of_find?_eq_some hf; simpa using this)
     rcases hg with hg | hg
     . obtain ⟨g1, g2, g3, g4, g5⟩ := (Qcs h).2.2.2 _ hg
       unfold In2 at g1
       exact ⟨⟨by show (0 : Int) <= 0; omega, by show (0 : Int) <= 9; omega⟩, ⟨by show -1 <= (Items.getIt r.start r.its off).off; omega, by show (Items.getIt r.start r.its off).off <= 100000; omega⟩, g4, g5⟩
     . rw [hg]
       exact ⟨⟨by show (0 : Int) <= 0; omega, by show (0 : Int) <= 9; omega⟩, ⟨by show (-1 : Int) <= 0; omega, by show (0 : Int) <= 100000; omega⟩, by show (0 : Nat) <= 30; omega, by show (0 : Nat) <= 30; omega⟩
theorem askC_R (epoch last : Int) (l : List Mk) (ep seq : Int) : In2 (askC epoch last l ep seq) 4 := by
 unfold askC upC
 repeat' split
 all_goals exact ⟨by omega, by omega⟩
theorem askO_R {m : PM} (hm : MpR m) (ep seq : Int) : -1 <= askO m.epoch m.last m.ms ep seq /\ askO m.epoch m.last m.ms ep seq <= 100000 := by
 unfold askO
 split
 . omega
 . split
   . omega
   . split
     . omega
     . unfold upO
       split
       . rename_i i hi
         have hx : i ∈ m.ms := by unfold Qbi at hi; have := List.mem_of_find?_eq_some hi; simpa using this
         have := (hm.ms i hx).2; unfold In2 at this; omega
       . omega
theorem rowDo_R {R N : Nat} {p : PK} (h : Kin R N p) {wi le ke : Int} (hw : 1 <= wi /\ wi <= 5) (hle : 1 <= le /\ le <= 100) {c : Cq} (hc : CqR c) (ha : c.a.toNat < R) : Kin R (N + 1) (Qc9 wi le ke p c).1 /\ AnP (Qc9 wi le ke p c).2 := by
 have hr := rowQ_R h ha
 have hm := mofQ_R h hc
 have h1 := h.mono (Nat.le_succ N)
 have hN0 : ∀ code : Int, In2 code 9 -> AnP (noAn code 0) := fun code hcode => Qcc hcode ⟨by omega, by omega⟩
 unfold Qc9
 simp only
 split
 . split
   . unfold putQ
     simp only
     split
     . refine ⟨((h.setR c.a.toNat _ ?_).setM _ (putM_R hw hm hc (rpN_R hr))), Qcc ⟨by omega, by omega⟩ ?_⟩
       . exact rp_right hr
       . have := rpN_R (key := c.key) (text := c.text) (who := c.who) (time := p.time) hr; unfold In2 at this; omega
     . exact ⟨h1, hN0 8 ⟨by omega, by omega⟩⟩
   . split
     . exact ⟨h1, Qcc ⟨by omega, by omega⟩ (askO_R hm _ _)⟩
     . refine ⟨h1, hN0 _ ?_⟩
       have := askC_R (mofQ p.ms c.a c.who).epoch (mofQ p.ms c.a c.who).last (mofQ p.ms c.a c.who).ms c.c c.b
       unfold In2 at this ⊢
       omega
 . split
   . unfold epochQ
     simp only
     split
     . refine ⟨h1, Qcc ⟨by omega, by omega⟩ ?_⟩
       have := hm.epoch; unfold In2 at this; omega
     . refine ⟨h.setM _ ⟨hc.a, hc.who, hc.b, ⟨by show (-1 : Int) <= -1; omega, by show (-1 : Int) <= 100000; omega⟩, by simp, by simp⟩, Qcc ⟨by omega, by omega⟩ ?_⟩
       have := hc.b; unfold In2 at this; omega
   . split
     . exact ⟨h1, get_R hr c.b⟩
     . split
       . have ht := (Items.right_trim (rowQ p c.a.toNat).next le ke hle.1 (by omega) (rowQ p c.a.toNat).its.length (rowQ p c.a.toNat).start (rowQ p c.a.toNat).its hr).1
         refine ⟨(h.setR c.a.toNat _ ht).mono (Nat.le_succ N), Qcc ⟨by omega, by omega⟩ ?_⟩
         have := (Qcs ht).1; unfold In2 at this; omega
       . have hp : Items.rowB (rowQ p c.a.toNat).start (rowQ p c.a.toNat).next (Items.packL (rowQ p c.a.toNat).start (rowQ p c.a.toNat).next le (rowQ p c.a.toNat).its) = true := by
          unfold Items.packL
          split
          . exact Items.right_pack hr
          . exact hr
         refine ⟨(h.setR c.a.toNat _ hp).mono (Nat.le_succ N), Qcc ⟨by omega, by omega⟩ ?_⟩
         have := (Qcs hr).1; unfold In2 at this; omega
theorem grpDo_R {R N : Nat} {p : PK} (h : Kin R N p) {ro : Int} {c : Cq} (hc : CqR c) (ha : c.a.toNat < 2) : Kin R (N + 1) (Qd4 ro p c).1 /\ AnP (Qd4 ro p c).2 := by
 have hg := grpQ_R h ha
 have h1 := h.mono (Nat.le_succ N)
 have hin : ∀ {z : Int}, In2 z 100000 -> -1 <= z /\ z <= 100000 := fun hz => by unfold In2 at hz; omega
 unfold Qd4
 simp only
 split
 . have hj := join_R hg hc.who h.t
   exact ⟨h.setG (Nat.le_succ N) _ _ hj, Qcc ⟨by omega, by omega⟩ (hin hj.gen)⟩
 . split
   . have hl := leave_R (who := c.who) hg
     exact ⟨(h.setG (Nat.le_refl N) _ _ hl).mono (Nat.le_succ N), Qcc ⟨by omega, by omega⟩ (hin hl.gen)⟩
   . split
     . have hk := mark_R (who := c.who) (row := c.b) hg hc.c
       refine ⟨?_, ?_⟩
       . split
         . exact (h.setG (Nat.le_refl N) _ _ hk).mono (Nat.le_succ N)
         . exact h1
       . split
         . exact Qcc ⟨by omega, by omega⟩ (hin hc.c)
         . exact Qcc ⟨by omega, by omega⟩ ⟨by omega, by omega⟩
     . refine ⟨h1, ?_⟩
       split
       . exact Qcc ⟨by omega, by omega⟩ ⟨by omega, by omega⟩
       . refine Qcc ⟨by omega, by omega⟩ ?_
         by_cases hb : c.b.toNat < (grpQ p c.a.toNat).o.length
         . exact hin (hg.o _ (Qds hb))
         . rw [Qht (by omega)]; omega
theorem newDo_R {R N : Nat} {p : PK} (h : Kin R N p) {ro wi le ke : Int} (hro : ro = R) (hw : 1 <= wi /\ wi <= 5) (hle : 1 <= le /\ le <= 100) {c : Cq} (hc : CqR c) : Kin R (N + 1) (Qcq ro wi le ke p c).1 /\ AnP (Qcq ro wi le ke p c).2 := by
 have h1 := h.mono (Nat.le_succ N)
 have ht := h.t
 have ha := hc.a
 unfold In2 at ht ha
 unfold Qcq
 split
 . refine ⟨⟨h1.rl, h1.ri, h1.ml, h1.mi, by simpa using h1.gl, fun g hg => ?_, ⟨by show 0 <= min 100000 (p.time + c.a); omega, by show min 100000 (p.time + c.a) <= 100000; omega⟩, h1.dl, h1.di, h1.ll, h1.li⟩, Qcc ⟨by omega, by omega⟩ ⟨by omega, by omega⟩⟩
   obtain ⟨g0, hg0, rfl⟩ := List.mem_map.1 hg
   exact tick_R (h1.gi g0 hg0) _
 . split
   . split
     . exact ⟨h1, Qcc ⟨by omega, by omega⟩ ⟨by omega, by omega⟩⟩
     . exact grpDo_R h hc (by omega)
   . split
     . exact ⟨h1, Qcc ⟨by omega, by omega⟩ ⟨by omega, by omega⟩⟩
     . exact rowDo_R h hw hle hc (by omega)
theorem doQ_R {R N : Nat} {p : PK} (h : Kin R N p) {ro wi le ke : Int} (hro : ro = R) (hw : 1 <= wi /\ wi <= 5) (hle : 1 <= le /\ le <= 100) {c : Cq} (hc : c.who < 0 ∨ CqR c) : Kin R (N + 1) (doQ ro wi le ke p c).1 /\ AnP (doQ ro wi le ke p c).2 := by
 have h1 := h.mono (Nat.le_succ N)
 unfold doQ
 split
 . exact ⟨h1, Qcc ⟨by omega, by omega⟩ ⟨by omega, by omega⟩⟩
 . rename_i hn
   have hc : CqR c := hc.resolve_left hn
   split
   . refine ⟨h1, ?_⟩
     by_cases hb : c.who.toNat < p.ls.length
     . exact h.li _ (Qds hb)
     . rw [Qht (by omega)]; exact zAn_p
   . obtain ⟨g1, g2⟩ := newDo_R (ke := ke) h hro hw hle hc
     exact ⟨g1.setDL _ _ hc.seq _ g2, g2⟩
theorem l6Row_put (ro wi le ke : Int) (rA : Option Addr) (rc : Nat) (rs : List RC) (mA : Option Addr) (mc : Nat) (ms : List MC) (gA : Option Addr) (gc : Nat) (gs : List GC) (time : Int) (dA : Option Addr) (dc : Nat) (ds : List Int) (lA : Option Addr) (lc : Nat) (ls : List An) (who seq ca cb cc : Int) (key text : ByteArray) (S : Nat -> Prop) (w : World) (hS : ∀ b, S b -> b < w.heap.size) (p : PK) (a : An)
 (hc : Calls Tryz.prog 100 #[.agg (Qan ro wi le ke), .agg (Qaa rA rs.length rc mA ms.length mc gA gs.length gc time dA ds.length dc lA ls.length lc), .agg (Qad who seq 1 ca cb cc key text)] (((((w.alloc (.cells (Qan ro wi le ke) 84)).alloc (.cells (Qaa rA rs.length rc mA ms.length mc gA gs.length gc time dA ds.length dc lA ls.length lc) 90)).alloc (.cells (Qad who seq 1 ca cb cc key text) 105)).alloc (.cells Qab 90)).alloc (.cells Qai 130)) fun e w' => Qbu S (((((w.alloc (.cells (Qan ro wi le ke) 84)).alloc (.cells (Qaa rA rs.length rc mA ms.length mc gA gs.length gc time dA ds.length dc lA ls.length lc) 90)).alloc (.cells (Qad who seq 1 ca cb cc key text) 105)).alloc (.cells Qab 90)).alloc (.cells Qai 130)) w' e p a) :
 Calls Tryz.prog 93 #[.agg (Qan ro wi le ke), .agg (Qaa rA rs.length rc mA ms.length mc gA gs.length gc time dA ds.length dc lA ls.length lc), .agg (Qad who seq 1 ca cb cc key text)] w fun e w' => Qbu S w w' e p a := by
 have HC := hidP hc
 clear hc
 obtain ⟨I0, S0, B0⟩ := Qa2 ro wi le ke rA rc rs mA mc ms gA gc gs time dA dc ds lA lc ls who seq 1 ca cb cc key text S w hS
 go_enter Tryz.func93, Tryz.ntmps93
 go_upto_region 1 with fail
 generalize ((((w.alloc (.cells (Qan ro wi le ke) 84)).alloc (.cells (Qaa rA rs.length rc mA ms.length mc gA gs.length gc time dA ds.length dc lA ls.length lc) 90)).alloc (.cells (Qad who seq 1 ca cb cc key text) 105)).alloc (.cells Qab 90)).alloc (.cells Qai 130) = X0 at HC I0 S0 B0 ⊢
 obtain ⟨k0, k1, k2, k3, k4, k5⟩ := I0.k.row6
 obtain ⟨c0, c1, c2, c3, c4, c5, c6, c7⟩ := I0.c.row8c
 obtain ⟨n0, n1, n2, n3⟩ := S0.row4
 go_wp2_with fail
 clear k0 k1 k2 k3 k4 k5 c0 c1 c2 c3 c4 c5 c6 c7 n0 n1 n2 n3
 refine HC.out.mono ?_
 rintro e w1 ⟨y, br, bg, bd, bl, rfl, hp, hq1, ho⟩
 clear HC
 obtain (⟨rA9, rc9, rs9, mA9, mc9, ms9, gA9, gc9, gs9, time9, dA9, dc9, ds9, lA9, lc9, ls9⟩ : KC) := y
 obtain ⟨ac, aN, ak, ax⟩ := a
 subst hp
 simp only [KC.cells]
 have l0 : w.heap.size + 1 + 1 + 1 + 1 < X0.heap.size := I0.r2.lt
 have l1 : X0.heap.size <= w1.heap.size := ho.size
 have I2 := ((I0.turn ho (fun b e => .inl e)).alloc (.cells (Qaa rA9 rs9.length rc9 mA9 ms9.length mc9 gA9 gs9.length gc9 time9 dA9 ds9.length dc9 lA9 ls9.length lc9) 90)).alloc (.cells (Qas ac aN ak ax) 130)
 have E8 : Blk ((w1.alloc (.cells (Qaa rA9 rs9.length rc9 mA9 ms9.length mc9 gA9 gs9.length gc9 time9 dA9 ds9.length dc9 lA9 ls9.length lc9) 90)).alloc (.cells (Qas ac aN ak ax) 130)) w1.heap.size 90 (Qaa rA9 rs9.length rc9 mA9 ms9.length mc9 gA9 gs9.length gc9 time9 dA9 ds9.length dc9 lA9 ls9.length lc9) := (Blk.new w1 90 (Qaa rA9 rs9.length rc9 mA9 ms9.length mc9 gA9 gs9.length gc9 time9 dA9 ds9.length dc9 lA9 ls9.length lc9)).alloc (.cells (Qas ac aN ak ax) 130)
 have N3 : Blk ((w1.alloc (.cells (Qaa rA9 rs9.length rc9 mA9 ms9.length mc9 gA9 gs9.length gc9 time9 dA9 ds9.length dc9 lA9 ls9.length lc9) 90)).alloc (.cells (Qas ac aN ak ax) 130)) (w1.heap.size + 1) 130 (Qas ac aN ak ax) := by have := Blk.new (w1.alloc (.cells (Qaa rA9 rs9.length rc9 mA9 ms9.length mc9 gA9 gs9.length gc9 time9 dA9 ds9.length dc9 lA9 ls9.length lc9) 90)) 130 (Qas ac aN ak ax); simpa using this
 have I3 : Bx S w ((w1.alloc (.cells (Qaa rA9 rs9.length rc9 mA9 ms9.length mc9 gA9 gs9.length gc9 time9 dA9 ds9.length dc9 lA9 ls9.length lc9) 90)).alloc (.cells (Qas ac aN ak ax) 130)) w1.heap.size (w.heap.size + 1 + 1) (w.heap.size + 1 + 1 + 1) (w.heap.size + 1 + 1 + 1 + 1) (Qaa rA9 rs9.length rc9 mA9 ms9.length mc9 gA9 gs9.length gc9 time9 dA9 ds9.length dc9 lA9 ls9.length lc9) (Qad who seq 1 ca cb cc key text) := ⟨I2.off, E8, I2.c, I2.r1, I2.r2, by omega, by omega, I2.s⟩
 have Q3 : Hid (KQ ((w1.alloc (.cells (Qaa rA9 rs9.length rc9 mA9 ms9.length mc9 gA9 gs9.length gc9 time9 dA9 ds9.length dc9 lA9 ls9.length lc9) 90)).alloc (.cells (Qas ac aN ak ax) 130)) (⟨rA9, rc9, rs9, mA9, mc9, ms9, gA9, gc9, gs9, time9, dA9, dc9, ds9, lA9, lc9, ls9⟩ : KC) (fun b => S b ∨ (w.heap.size <= b /\ b ≠ (w.heap.size + 1 + 1 + 1) /\ b ≠ (w.heap.size + 1 + 1 + 1 + 1))) br bg bd bl) :=
  ((hq1.below (Qaf (Below.refl _ _) (.cells (Qaa rA9 rs9.length rc9 mA9 ms9.length mc9 gA9 gs9.length gc9 time9 dA9 ds9.length dc9 lA9 ls9.length lc9) 90))).below (Qaf (Below.refl _ _) (.cells (Qas ac aN ak ax) 130))).mono (fun b _ hb => hb.imp id (fun h => ⟨by omega, by omega, by omega⟩))
 clear I0 S0 B0 hq1 ho I2 E8
 go_upto_region 5 with fail
 generalize ((w1.alloc (.cells (Qaa rA9 rs9.length rc9 mA9 ms9.length mc9 gA9 gs9.length gc9 time9 dA9 ds9.length dc9 lA9 ls9.length lc9) 90)).alloc (.cells (Qas ac aN ak ax) 130)) = X3 at I3 N3 Q3 ⊢
 obtain ⟨n0, n1, n2, n3⟩ := N3.row4
 have ln := N3.lt
 have mkS : ∀ V : World, Blk V w1.heap.size 90 (Qaa rA9 rs9.length rc9 mA9 ms9.length mc9 gA9 gs9.length gc9 time9 dA9 ds9.length dc9 lA9 ls9.length lc9) -> V.cell? ⟨(w1.heap.size + 1), 0, none⟩ = some (.int .i64 ac) -> V.cell? ⟨(w1.heap.size + 1), 1, none⟩ = some (.int .i64 aN) -> V.cell? ⟨(w1.heap.size + 1), 2, none⟩ = some (.string ak) -> V.cell? ⟨(w1.heap.size + 1), 3, none⟩ = some (.string ax) -> (fun (V : World) => V.cell? ⟨w1.heap.size, 0, none⟩ = some (.slice rA9 rs9.length rc9) /\ V.cell? ⟨w1.heap.size, 1, none⟩ = some (.slice mA9 ms9.length mc9) /\ V.cell? ⟨w1.heap.size, 2, none⟩ = some (.slice gA9 gs9.length gc9) /\ V.cell? ⟨w1.heap.size, 3, none⟩ = some (.int .i64 time9) /\ V.cell? ⟨w1.heap.size, 4, none⟩ = some (.slice dA9 ds9.length dc9) /\ V.cell? ⟨w1.heap.size, 5, none⟩ = some (.slice lA9 ls9.length lc9) /\ V.cell? ⟨(w1.heap.size + 1), 0, none⟩ = some (.int .i64 ac) /\ V.cell? ⟨(w1.heap.size + 1), 1, none⟩ = some (.int .i64 aN) /\ V.cell? ⟨(w1.heap.size + 1), 2, none⟩ = some (.string ak) /\ V.cell? ⟨(w1.heap.size + 1), 3, none⟩ = some (.string ax)) V := fun V hk hm0 hm1 hm2 hm3 => by obtain ⟨a0, a1, a2, a3, a4, a5⟩ := hk.row6; exact ⟨a0, a1, a2, a3, a4, a5, hm0, hm1, hm2, hm3⟩
 have SW := mkS _ I3.k.drew (n0) (n1) (n2) (n3)
 have J := I3.drew
 have QQ := hidP (Q3.out.below (Below.refl _ _).drew)
 have M0 : X3.drew.cell? ⟨(w1.heap.size + 1), 0, none⟩ = some (.int .i64 ac) /\ (w1.heap.size + 1) < X3.drew.heap.size := ⟨n0, ln⟩
 have M1 : X3.drew.cell? ⟨(w1.heap.size + 1), 1, none⟩ = some (.int .i64 aN) /\ (w1.heap.size + 1) < X3.drew.heap.size := ⟨n1, ln⟩
 have M2 : X3.drew.cell? ⟨(w1.heap.size + 1), 2, none⟩ = some (.string ak) /\ (w1.heap.size + 1) < X3.drew.heap.size := ⟨n2, ln⟩
 have M3 : X3.drew.cell? ⟨(w1.heap.size + 1), 3, none⟩ = some (.string ax) /\ (w1.heap.size + 1) < X3.drew.heap.size := ⟨n3, ln⟩
 refine wp_region_noPanic ?_
 refine wp_region_held_drew (S := (fun (V : World) => V.cell? ⟨w1.heap.size, 0, none⟩ = some (.slice rA9 rs9.length rc9) /\ V.cell? ⟨w1.heap.size, 1, none⟩ = some (.slice mA9 ms9.length mc9) /\ V.cell? ⟨w1.heap.size, 2, none⟩ = some (.slice gA9 gs9.length gc9) /\ V.cell? ⟨w1.heap.size, 3, none⟩ = some (.int .i64 time9) /\ V.cell? ⟨w1.heap.size, 4, none⟩ = some (.slice dA9 ds9.length dc9) /\ V.cell? ⟨w1.heap.size, 5, none⟩ = some (.slice lA9 ls9.length lc9) /\ V.cell? ⟨(w1.heap.size + 1), 0, none⟩ = some (.int .i64 ac) /\ V.cell? ⟨(w1.heap.size + 1), 1, none⟩ = some (.int .i64 aN) /\ V.cell? ⟨(w1.heap.size + 1), 2, none⟩ = some (.string ak) /\ V.cell? ⟨(w1.heap.size + 1), 3, none⟩ = some (.string ax))) (by kernel_rfl) ?_ (fun hH => ?_)
 . exact SW
 clear SW hH
 generalize X3.drew = XX at J QQ M0 M1 M2 M3 ⊢
 have hH := mkS XX J.k M0.1 M1.1 M2.1 M3.1
 have TT := hidP (Bx.told J (y := (⟨rA9, rc9, rs9, mA9, mc9, ms9, gA9, gc9, gs9, time9, dA9, dc9, ds9, lA9, lc9, ls9⟩ : KC)) (br := br) (bg := bg) (bd := bd) (bl := bl) (QQ.out) (⟨(ac), (aN), (ak), (ax)⟩ : An) (hv := rfl))
 obtain ⟨z0, z1, z2, z3, z4, z5⟩ := J.r1.row6
 have f0 := J.r1.thaw 0; have f1 := J.r1.thaw 1; have f2 := J.r1.thaw 2; have f3 := J.r1.thaw 3; have f4 := J.r1.thaw 4; have f5 := J.r1.thaw 5
 obtain ⟨k0, k1, k2, k3, k4, k5⟩ := J.k.row6
 have R2 := J.r2.only (Qac _ (w.heap.size + 1 + 1 + 1) (.slice rA9 rs9.length rc9) (.slice mA9 ms9.length mc9) (.slice gA9 gs9.length gc9) (.int .i64 time9) (.slice dA9 ds9.length dc9) (.slice lA9 ls9.length lc9)) (fun e => J.ne.2.2.2.2.2 e.symm)
 obtain ⟨y0, y1, y2, y3⟩ := R2.row4
 have ee0 := R2.thaw 0; have ee1 := R2.thaw 1; have ee2 := R2.thaw 2; have ee3 := R2.thaw 3
 have C1 := Qat J.r1 (.slice rA9 rs9.length rc9) (.slice mA9 ms9.length mc9) (.slice gA9 gs9.length gc9) (.int .i64 time9) (.slice dA9 ds9.length dc9) (.slice lA9 ls9.length lc9)
 have B1 := (Qax J.r1 (.slice rA9 rs9.length rc9) (.slice mA9 ms9.length mc9) (.slice gA9 gs9.length gc9) (.int .i64 time9) (.slice dA9 ds9.length dc9) (.slice lA9 ls9.length lc9)).only (Qah _ (w.heap.size + 1 + 1 + 1 + 1) (.int .i64 (ac)) (.int .i64 (aN)) (.string ak) (.string ax)) (fun e => J.ne.2.2.2.2.2 e)
 have C2 := Qau R2 (.int .i64 (ac)) (.int .i64 (aN)) (.string ak) (.string ax)
 obtain ⟨s0, s1, s2, s3, s4, s5⟩ := C1
 obtain ⟨t0, t1, t2, t3⟩ := C2
 obtain ⟨q0, q1, q2, q3, q4, q5⟩ := B1.row6
 have hne12 : (w.heap.size + 1 + 1 + 1) ≠ (w.heap.size + 1 + 1 + 1 + 1) := J.ne.2.2.2.2.2
 have hne21 : (w.heap.size + 1 + 1 + 1 + 1) ≠ (w.heap.size + 1 + 1 + 1) := fun e => J.ne.2.2.2.2.2 e.symm
 have SK := hidP (mkS _ (J.k.only (Qac _ (w.heap.size + 1 + 1 + 1) (.slice rA9 rs9.length rc9) (.slice mA9 ms9.length mc9) (.slice gA9 gs9.length gc9) (.int .i64 time9) (.slice dA9 ds9.length dc9) (.slice lA9 ls9.length lc9)) J.ne.2.1) (((Qac XX (w.heap.size + 1 + 1 + 1) (.slice rA9 rs9.length rc9) (.slice mA9 ms9.length mc9) (.slice gA9 gs9.length gc9) (.int .i64 time9) (.slice dA9 ds9.length dc9) (.slice lA9 ls9.length lc9)).cell (p := ⟨(w1.heap.size + 1), 0, none⟩) M0.2 (by show w1.heap.size + 1 ≠ _; omega)).trans M0.1) (((Qac XX (w.heap.size + 1 + 1 + 1) (.slice rA9 rs9.length rc9) (.slice mA9 ms9.length mc9) (.slice gA9 gs9.length gc9) (.int .i64 time9) (.slice dA9 ds9.length dc9) (.slice lA9 ls9.length lc9)).cell (p := ⟨(w1.heap.size + 1), 1, none⟩) M1.2 (by show w1.heap.size + 1 ≠ _; omega)).trans M1.1) (((Qac XX (w.heap.size + 1 + 1 + 1) (.slice rA9 rs9.length rc9) (.slice mA9 ms9.length mc9) (.slice gA9 gs9.length gc9) (.int .i64 time9) (.slice dA9 ds9.length dc9) (.slice lA9 ls9.length lc9)).cell (p := ⟨(w1.heap.size + 1), 2, none⟩) M2.2 (by show w1.heap.size + 1 ≠ _; omega)).trans M2.1) (((Qac XX (w.heap.size + 1 + 1 + 1) (.slice rA9 rs9.length rc9) (.slice mA9 ms9.length mc9) (.slice gA9 gs9.length gc9) (.int .i64 time9) (.slice dA9 ds9.length dc9) (.slice lA9 ls9.length lc9)).cell (p := ⟨(w1.heap.size + 1), 3, none⟩) M3.2 (by show w1.heap.size + 1 ≠ _; omega)).trans M3.1))
 have SN := hidP (mkS _ ((J.k.only (Qac _ (w.heap.size + 1 + 1 + 1) (.slice rA9 rs9.length rc9) (.slice mA9 ms9.length mc9) (.slice gA9 gs9.length gc9) (.int .i64 time9) (.slice dA9 ds9.length dc9) (.slice lA9 ls9.length lc9)) J.ne.2.1).only (Qah _ (w.heap.size + 1 + 1 + 1 + 1) (.int .i64 (ac)) (.int .i64 (aN)) (.string ak) (.string ax)) J.ne.2.2.1) (((Qah (putK XX (w.heap.size + 1 + 1 + 1) (.slice rA9 rs9.length rc9) (.slice mA9 ms9.length mc9) (.slice gA9 gs9.length gc9) (.int .i64 time9) (.slice dA9 ds9.length dc9) (.slice lA9 ls9.length lc9)) (w.heap.size + 1 + 1 + 1 + 1) (.int .i64 (ac)) (.int .i64 (aN)) (.string ak) (.string ax)).cell (p := ⟨(w1.heap.size + 1), 0, none⟩) (Nat.lt_of_lt_of_le M0.2 (Qac XX (w.heap.size + 1 + 1 + 1) (.slice rA9 rs9.length rc9) (.slice mA9 ms9.length mc9) (.slice gA9 gs9.length gc9) (.int .i64 time9) (.slice dA9 ds9.length dc9) (.slice lA9 ls9.length lc9)).size) (by show w1.heap.size + 1 ≠ _; omega)).trans (((Qac XX (w.heap.size + 1 + 1 + 1) (.slice rA9 rs9.length rc9) (.slice mA9 ms9.length mc9) (.slice gA9 gs9.length gc9) (.int .i64 time9) (.slice dA9 ds9.length dc9) (.slice lA9 ls9.length lc9)).cell (p := ⟨(w1.heap.size + 1), 0, none⟩) M0.2 (by show w1.heap.size + 1 ≠ _; omega)).trans M0.1)) (((Qah (putK XX (w.heap.size + 1 + 1 + 1) (.slice rA9 rs9.length rc9) (.slice mA9 ms9.length mc9) (.slice gA9 gs9.length gc9) (.int .i64 time9) (.slice dA9 ds9.length dc9) (.slice lA9 ls9.length lc9)) (w.heap.size + 1 + 1 + 1 + 1) (.int .i64 (ac)) (.int .i64 (aN)) (.string ak) (.string ax)).cell (p := ⟨(w1.heap.size + 1), 1, none⟩) (Nat.lt_of_lt_of_le M1.2 (Qac XX (w.heap.size + 1 + 1 + 1) (.slice rA9 rs9.length rc9) (.slice mA9 ms9.length mc9) (.slice gA9 gs9.length gc9) (.int .i64 time9) (.slice dA9 ds9.length dc9) (.slice lA9 ls9.length lc9)).size) (by show w1.heap.size + 1 ≠ _; omega)).trans (((Qac XX (w.heap.size + 1 + 1 + 1) (.slice rA9 rs9.length rc9) (.slice mA9 ms9.length mc9) (.slice gA9 gs9.length gc9) (.int .i64 time9) (.slice dA9 ds9.length dc9) (.slice lA9 ls9.length lc9)).cell (p := ⟨(w1.heap.size + 1), 1, none⟩) M1.2 (by show w1.heap.size + 1 ≠ _; omega)).trans M1.1)) (((Qah (putK XX (w.heap.size + 1 + 1 + 1) (.slice rA9 rs9.length rc9) (.slice mA9 ms9.length mc9) (.slice gA9 gs9.length gc9) (.int .i64 time9) (.slice dA9 ds9.length dc9) (.slice lA9 ls9.length lc9)) (w.heap.size + 1 + 1 + 1 + 1) (.int .i64 (ac)) (.int .i64 (aN)) (.string ak) (.string ax)).cell (p := ⟨(w1.heap.size + 1), 2, none⟩) (Nat.lt_of_lt_of_le M2.2 (Qac XX (w.heap.size + 1 + 1 + 1) (.slice rA9 rs9.length rc9) (.slice mA9 ms9.length mc9) (.slice gA9 gs9.length gc9) (.int .i64 time9) (.slice dA9 ds9.length dc9) (.slice lA9 ls9.length lc9)).size) (by show w1.heap.size + 1 ≠ _; omega)).trans (((Qac XX (w.heap.size + 1 + 1 + 1) (.slice rA9 rs9.length rc9) (.slice mA9 ms9.length mc9) (.slice gA9 gs9.length gc9) (.int .i64 time9) (.slice dA9 ds9.length dc9) (.slice lA9 ls9.length lc9)).cell (p := ⟨(w1.heap.size + 1), 2, none⟩) M2.2 (by show w1.heap.size + 1 ≠ _; omega)).trans M2.1)) (((Qah (putK XX (w.heap.size + 1 + 1 + 1) (.slice rA9 rs9.length rc9) (.slice mA9 ms9.length mc9) (.slice gA9 gs9.length gc9) (.int .i64 time9) (.slice dA9 ds9.length dc9) (.slice lA9 ls9.length lc9)) (w.heap.size + 1 + 1 + 1 + 1) (.int .i64 (ac)) (.int .i64 (aN)) (.string ak) (.string ax)).cell (p := ⟨(w1.heap.size + 1), 3, none⟩) (Nat.lt_of_lt_of_le M3.2 (Qac XX (w.heap.size + 1 + 1 + 1) (.slice rA9 rs9.length rc9) (.slice mA9 ms9.length mc9) (.slice gA9 gs9.length gc9) (.int .i64 time9) (.slice dA9 ds9.length dc9) (.slice lA9 ls9.length lc9)).size) (by show w1.heap.size + 1 ≠ _; omega)).trans (((Qac XX (w.heap.size + 1 + 1 + 1) (.slice rA9 rs9.length rc9) (.slice mA9 ms9.length mc9) (.slice gA9 gs9.length gc9) (.int .i64 time9) (.slice dA9 ds9.length dc9) (.slice lA9 ls9.length lc9)).cell (p := ⟨(w1.heap.size + 1), 3, none⟩) M3.2 (by show w1.heap.size + 1 ≠ _; omega)).trans M3.1)))
 clear mkS QQ
 refine ztk [0,1] ?_; repeat (refine ztn (hS := hH) (h := ?_); try simp only [zX,zY])
 refine zte ?_
 refine zR1 2 (fun K hK => ?_)
 simp only [zG]
 go_simp
 skip
 refine hK.out _ _ SK.out fun hH => ?_; clear hK K; try simp only [zX,zY]
 refine zR1 3 (fun K hK => ?_)
 simp only [zG]
 go_simp
 skip
 refine hK.out _ _ SN.out fun hH => ?_; clear hK K; try simp only [zX,zY]
 refine zdn ?_
 go_wp2
 exact bodyPost_ret (v := .tuple #[.agg (Qaa rA9 rs9.length rc9 mA9 ms9.length mc9 gA9 gs9.length gc9 time9 dA9 ds9.length dc9 lA9 ls9.length lc9), .agg (Qas (ac) (aN) ak ax)]) (by simp [results, Tryz.results93, go_sem, s0, s1, s2, s3, s4, s5, t0, t1, t2, t3, q0, q1, q2, q3, q4, q5]) rfl TT.out
theorem Qfs (ro wi le ke : Int) (rA : Option Addr) (rc : Nat) (rs : List RC) (mA : Option Addr) (mc : Nat) (ms : List MC) (gA : Option Addr) (gc : Nat) (gs : List GC) (time : Int) (dA : Option Addr) (dc : Nat) (ds : List Int) (lA : Option Addr) (lc : Nat) (ls : List An) (who seq ca cb cc : Int) (key text : ByteArray) (S : Nat -> Prop) (w : World) (hS : ∀ b, S b -> b < w.heap.size) (p : PK) (a : An)
 (hc : Calls Tryz.prog 101 #[.agg (Qaa rA rs.length rc mA ms.length mc gA gs.length gc time dA ds.length dc lA ls.length lc), .agg (Qad who seq 3 ca cb cc key text)] (((((w.alloc (.cells (Qan ro wi le ke) 84)).alloc (.cells (Qaa rA rs.length rc mA ms.length mc gA gs.length gc time dA ds.length dc lA ls.length lc) 90)).alloc (.cells (Qad who seq 3 ca cb cc key text) 105)).alloc (.cells Qab 90)).alloc (.cells Qai 130)) fun e w' => Qbu S (((((w.alloc (.cells (Qan ro wi le ke) 84)).alloc (.cells (Qaa rA rs.length rc mA ms.length mc gA gs.length gc time dA ds.length dc lA ls.length lc) 90)).alloc (.cells (Qad who seq 3 ca cb cc key text) 105)).alloc (.cells Qab 90)).alloc (.cells Qai 130)) w' e p a) :
 Calls Tryz.prog 93 #[.agg (Qan ro wi le ke), .agg (Qaa rA rs.length rc mA ms.length mc gA gs.length gc time dA ds.length dc lA ls.length lc), .agg (Qad who seq 3 ca cb cc key text)] w fun e w' => Qbu S w w' e p a := by
 have HC := hidP hc
 clear hc
 obtain ⟨I0, S0, B0⟩ := Qa2 ro wi le ke rA rc rs mA mc ms gA gc gs time dA dc ds lA lc ls who seq 3 ca cb cc key text S w hS
 go_enter Tryz.func93, Tryz.ntmps93
 go_upto_region 1 with fail
 generalize ((((w.alloc (.cells (Qan ro wi le ke) 84)).alloc (.cells (Qaa rA rs.length rc mA ms.length mc gA gs.length gc time dA ds.length dc lA ls.length lc) 90)).alloc (.cells (Qad who seq 3 ca cb cc key text) 105)).alloc (.cells Qab 90)).alloc (.cells Qai 130) = X0 at HC I0 S0 B0 ⊢
 obtain ⟨k0, k1, k2, k3, k4, k5⟩ := I0.k.row6
 obtain ⟨c0, c1, c2, c3, c4, c5, c6, c7⟩ := I0.c.row8c
 obtain ⟨n0, n1, n2, n3⟩ := S0.row4
 go_wp2_with fail
 clear k0 k1 k2 k3 k4 k5 c0 c1 c2 c3 c4 c5 c6 c7 n0 n1 n2 n3
 refine HC.out.mono ?_
 rintro e w1 ⟨y, br, bg, bd, bl, rfl, hp, hq1, ho⟩
 clear HC
 obtain (⟨rA9, rc9, rs9, mA9, mc9, ms9, gA9, gc9, gs9, time9, dA9, dc9, ds9, lA9, lc9, ls9⟩ : KC) := y
 obtain ⟨ac, aN, ak, ax⟩ := a
 subst hp
 simp only [KC.cells]
 have l0 : w.heap.size + 1 + 1 + 1 + 1 < X0.heap.size := I0.r2.lt
 have l1 : X0.heap.size <= w1.heap.size := ho.size
 have I2 := ((I0.turn ho (fun b e => .inl e)).alloc (.cells (Qaa rA9 rs9.length rc9 mA9 ms9.length mc9 gA9 gs9.length gc9 time9 dA9 ds9.length dc9 lA9 ls9.length lc9) 90)).alloc (.cells (Qas ac aN ak ax) 130)
 have E8 : Blk ((w1.alloc (.cells (Qaa rA9 rs9.length rc9 mA9 ms9.length mc9 gA9 gs9.length gc9 time9 dA9 ds9.length dc9 lA9 ls9.length lc9) 90)).alloc (.cells (Qas ac aN ak ax) 130)) w1.heap.size 90 (Qaa rA9 rs9.length rc9 mA9 ms9.length mc9 gA9 gs9.length gc9 time9 dA9 ds9.length dc9 lA9 ls9.length lc9) := (Blk.new w1 90 (Qaa rA9 rs9.length rc9 mA9 ms9.length mc9 gA9 gs9.length gc9 time9 dA9 ds9.length dc9 lA9 ls9.length lc9)).alloc (.cells (Qas ac aN ak ax) 130)
 have N3 : Blk ((w1.alloc (.cells (Qaa rA9 rs9.length rc9 mA9 ms9.length mc9 gA9 gs9.length gc9 time9 dA9 ds9.length dc9 lA9 ls9.length lc9) 90)).alloc (.cells (Qas ac aN ak ax) 130)) (w1.heap.size + 1) 130 (Qas ac aN ak ax) := by have := Blk.new (w1.alloc (.cells (Qaa rA9 rs9.length rc9 mA9 ms9.length mc9 gA9 gs9.length gc9 time9 dA9 ds9.length dc9 lA9 ls9.length lc9) 90)) 130 (Qas ac aN ak ax); simpa using this
 have I3 : Bx S w ((w1.alloc (.cells (Qaa rA9 rs9.length rc9 mA9 ms9.length mc9 gA9 gs9.length gc9 time9 dA9 ds9.length dc9 lA9 ls9.length lc9) 90)).alloc (.cells (Qas ac aN ak ax) 130)) w1.heap.size (w.heap.size + 1 + 1) (w.heap.size + 1 + 1 + 1) (w.heap.size + 1 + 1 + 1 + 1) (Qaa rA9 rs9.length rc9 mA9 ms9.length mc9 gA9 gs9.length gc9 time9 dA9 ds9.length dc9 lA9 ls9.length lc9) (Qad who seq 3 ca cb cc key text) := ⟨I2.off, E8, I2.c, I2.r1, I2.r2, by omega, by omega, I2.s⟩
 have Q3 : Hid (KQ ((w1.alloc (.cells (Qaa rA9 rs9.length rc9 mA9 ms9.length mc9 gA9 gs9.length gc9 time9 dA9 ds9.length dc9 lA9 ls9.length lc9) 90)).alloc (.cells (Qas ac aN ak ax) 130)) (⟨rA9, rc9, rs9, mA9, mc9, ms9, gA9, gc9, gs9, time9, dA9, dc9, ds9, lA9, lc9, ls9⟩ : KC) (fun b => S b ∨ (w.heap.size <= b /\ b ≠ (w.heap.size + 1 + 1 + 1) /\ b ≠ (w.heap.size + 1 + 1 + 1 + 1))) br bg bd bl) :=
  ((hq1.below (Qaf (Below.refl _ _) (.cells (Qaa rA9 rs9.length rc9 mA9 ms9.length mc9 gA9 gs9.length gc9 time9 dA9 ds9.length dc9 lA9 ls9.length lc9) 90))).below (Qaf (Below.refl _ _) (.cells (Qas ac aN ak ax) 130))).mono (fun b _ hb => hb.imp id (fun h => ⟨by omega, by omega, by omega⟩))
 clear I0 S0 B0 hq1 ho I2 E8
 go_upto_region 8 with fail
 generalize ((w1.alloc (.cells (Qaa rA9 rs9.length rc9 mA9 ms9.length mc9 gA9 gs9.length gc9 time9 dA9 ds9.length dc9 lA9 ls9.length lc9) 90)).alloc (.cells (Qas ac aN ak ax) 130)) = X3 at I3 N3 Q3 ⊢
 obtain ⟨n0, n1, n2, n3⟩ := N3.row4
 have ln := N3.lt
 have mkS : ∀ V : World, Blk V w1.heap.size 90 (Qaa rA9 rs9.length rc9 mA9 ms9.length mc9 gA9 gs9.length gc9 time9 dA9 ds9.length dc9 lA9 ls9.length lc9) -> V.cell? ⟨(w1.heap.size + 1), 0, none⟩ = some (.int .i64 ac) -> V.cell? ⟨(w1.heap.size + 1), 1, none⟩ = some (.int .i64 aN) -> V.cell? ⟨(w1.heap.size + 1), 2, none⟩ = some (.string ak) -> V.cell? ⟨(w1.heap.size + 1), 3, none⟩ = some (.string ax) -> (fun (V : World) => V.cell? ⟨w1.heap.size, 0, none⟩ = some (.slice rA9 rs9.length rc9) /\ V.cell? ⟨w1.heap.size, 1, none⟩ = some (.slice mA9 ms9.length mc9) /\ V.cell? ⟨w1.heap.size, 2, none⟩ = some (.slice gA9 gs9.length gc9) /\ V.cell? ⟨w1.heap.size, 3, none⟩ = some (.int .i64 time9) /\ V.cell? ⟨w1.heap.size, 4, none⟩ = some (.slice dA9 ds9.length dc9) /\ V.cell? ⟨w1.heap.size, 5, none⟩ = some (.slice lA9 ls9.length lc9) /\ V.cell? ⟨(w1.heap.size + 1), 0, none⟩ = some (.int .i64 ac) /\ V.cell? ⟨(w1.heap.size + 1), 1, none⟩ = some (.int .i64 aN) /\ V.cell? ⟨(w1.heap.size + 1), 2, none⟩ = some (.string ak) /\ V.cell? ⟨(w1.heap.size + 1), 3, none⟩ = some (.string ax)) V := fun V hk hm0 hm1 hm2 hm3 => by obtain ⟨a0, a1, a2, a3, a4, a5⟩ := hk.row6; exact ⟨a0, a1, a2, a3, a4, a5, hm0, hm1, hm2, hm3⟩
 have SW := mkS _ I3.k.drew (n0) (n1) (n2) (n3)
 have J := I3.drew
 have QQ := hidP (Q3.out.below (Below.refl _ _).drew)
 have M0 : X3.drew.cell? ⟨(w1.heap.size + 1), 0, none⟩ = some (.int .i64 ac) /\ (w1.heap.size + 1) < X3.drew.heap.size := ⟨n0, ln⟩
 have M1 : X3.drew.cell? ⟨(w1.heap.size + 1), 1, none⟩ = some (.int .i64 aN) /\ (w1.heap.size + 1) < X3.drew.heap.size := ⟨n1, ln⟩
 have M2 : X3.drew.cell? ⟨(w1.heap.size + 1), 2, none⟩ = some (.string ak) /\ (w1.heap.size + 1) < X3.drew.heap.size := ⟨n2, ln⟩
 have M3 : X3.drew.cell? ⟨(w1.heap.size + 1), 3, none⟩ = some (.string ax) /\ (w1.heap.size + 1) < X3.drew.heap.size := ⟨n3, ln⟩
 refine wp_region_noPanic ?_
 refine wp_region_held_drew (S := (fun (V : World) => V.cell? ⟨w1.heap.size, 0, none⟩ = some (.slice rA9 rs9.length rc9) /\ V.cell? ⟨w1.heap.size, 1, none⟩ = some (.slice mA9 ms9.length mc9) /\ V.cell? ⟨w1.heap.size, 2, none⟩ = some (.slice gA9 gs9.length gc9) /\ V.cell? ⟨w1.heap.size, 3, none⟩ = some (.int .i64 time9) /\ V.cell? ⟨w1.heap.size, 4, none⟩ = some (.slice dA9 ds9.length dc9) /\ V.cell? ⟨w1.heap.size, 5, none⟩ = some (.slice lA9 ls9.length lc9) /\ V.cell? ⟨(w1.heap.size + 1), 0, none⟩ = some (.int .i64 ac) /\ V.cell? ⟨(w1.heap.size + 1), 1, none⟩ = some (.int .i64 aN) /\ V.cell? ⟨(w1.heap.size + 1), 2, none⟩ = some (.string ak) /\ V.cell? ⟨(w1.heap.size + 1), 3, none⟩ = some (.string ax))) (by kernel_rfl) ?_ (fun hH => ?_)
 . exact SW
 clear SW hH
 generalize X3.drew = XX at J QQ M0 M1 M2 M3 ⊢
 have hH := mkS XX J.k M0.1 M1.1 M2.1 M3.1
 have TT := hidP (Bx.told J (y := (⟨rA9, rc9, rs9, mA9, mc9, ms9, gA9, gc9, gs9, time9, dA9, dc9, ds9, lA9, lc9, ls9⟩ : KC)) (br := br) (bg := bg) (bd := bd) (bl := bl) (QQ.out) (⟨(ac), (aN), (ak), (ax)⟩ : An) (hv := rfl))
 obtain ⟨z0, z1, z2, z3, z4, z5⟩ := J.r1.row6
 have f0 := J.r1.thaw 0; have f1 := J.r1.thaw 1; have f2 := J.r1.thaw 2; have f3 := J.r1.thaw 3; have f4 := J.r1.thaw 4; have f5 := J.r1.thaw 5
 obtain ⟨k0, k1, k2, k3, k4, k5⟩ := J.k.row6
 have R2 := J.r2.only (Qac _ (w.heap.size + 1 + 1 + 1) (.slice rA9 rs9.length rc9) (.slice mA9 ms9.length mc9) (.slice gA9 gs9.length gc9) (.int .i64 time9) (.slice dA9 ds9.length dc9) (.slice lA9 ls9.length lc9)) (fun e => J.ne.2.2.2.2.2 e.symm)
 obtain ⟨y0, y1, y2, y3⟩ := R2.row4
 have ee0 := R2.thaw 0; have ee1 := R2.thaw 1; have ee2 := R2.thaw 2; have ee3 := R2.thaw 3
 have C1 := Qat J.r1 (.slice rA9 rs9.length rc9) (.slice mA9 ms9.length mc9) (.slice gA9 gs9.length gc9) (.int .i64 time9) (.slice dA9 ds9.length dc9) (.slice lA9 ls9.length lc9)
 have B1 := (Qax J.r1 (.slice rA9 rs9.length rc9) (.slice mA9 ms9.length mc9) (.slice gA9 gs9.length gc9) (.int .i64 time9) (.slice dA9 ds9.length dc9) (.slice lA9 ls9.length lc9)).only (Qah _ (w.heap.size + 1 + 1 + 1 + 1) (.int .i64 (ac)) (.int .i64 (aN)) (.string ak) (.string ax)) (fun e => J.ne.2.2.2.2.2 e)
 have C2 := Qau R2 (.int .i64 (ac)) (.int .i64 (aN)) (.string ak) (.string ax)
 obtain ⟨s0, s1, s2, s3, s4, s5⟩ := C1
 obtain ⟨t0, t1, t2, t3⟩ := C2
 obtain ⟨q0, q1, q2, q3, q4, q5⟩ := B1.row6
 have hne12 : (w.heap.size + 1 + 1 + 1) ≠ (w.heap.size + 1 + 1 + 1 + 1) := J.ne.2.2.2.2.2
 have hne21 : (w.heap.size + 1 + 1 + 1 + 1) ≠ (w.heap.size + 1 + 1 + 1) := fun e => J.ne.2.2.2.2.2 e.symm
 have SK := hidP (mkS _ (J.k.only (Qac _ (w.heap.size + 1 + 1 + 1) (.slice rA9 rs9.length rc9) (.slice mA9 ms9.length mc9) (.slice gA9 gs9.length gc9) (.int .i64 time9) (.slice dA9 ds9.length dc9) (.slice lA9 ls9.length lc9)) J.ne.2.1) (((Qac XX (w.heap.size + 1 + 1 + 1) (.slice rA9 rs9.length rc9) (.slice mA9 ms9.length mc9) (.slice gA9 gs9.length gc9) (.int .i64 time9) (.slice dA9 ds9.length dc9) (.slice lA9 ls9.length lc9)).cell (p := ⟨(w1.heap.size + 1), 0, none⟩) M0.2 (by show w1.heap.size + 1 ≠ _; omega)).trans M0.1) (((Qac XX (w.heap.size + 1 + 1 + 1) (.slice rA9 rs9.length rc9) (.slice mA9 ms9.length mc9) (.slice gA9 gs9.length gc9) (.int .i64 time9) (.slice dA9 ds9.length dc9) (.slice lA9 ls9.length lc9)).cell (p := ⟨(w1.heap.size + 1), 1, none⟩) M1.2 (by show w1.heap.size + 1 ≠ _; omega)).trans M1.1) (((Qac XX (w.heap.size + 1 + 1 + 1) (.slice rA9 rs9.length rc9) (.slice mA9 ms9.length mc9) (.slice gA9 gs9.length gc9) (.int .i64 time9) (.slice dA9 ds9.length dc9) (.slice lA9 ls9.length lc9)).cell (p := ⟨(w1.heap.size + 1), 2, none⟩) M2.2 (by show w1.heap.size + 1 ≠ _; omega)).trans M2.1) (((Qac XX (w.heap.size + 1 + 1 + 1) (.slice rA9 rs9.length rc9) (.slice mA9 ms9.length mc9) (.slice gA9 gs9.length gc9) (.int .i64 time9) (.slice dA9 ds9.length dc9) (.slice lA9 ls9.length lc9)).cell (p := ⟨(w1.heap.size + 1), 3, none⟩) M3.2 (by show w1.heap.size + 1 ≠ _; omega)).trans M3.1))
 have SN := hidP (mkS _ ((J.k.only (Qac _ (w.heap.size + 1 + 1 + 1) (.slice rA9 rs9.length rc9) (.slice mA9 ms9.length mc9) (.slice gA9 gs9.length gc9) (.int .i64 time9) (.slice dA9 ds9.length dc9) (.slice lA9 ls9.length lc9)) J.ne.2.1).only (Qah _ (w.heap.size + 1 + 1 + 1 + 1) (.int .i64 (ac)) (.int .i64 (aN)) (.string ak) (.string ax)) J.ne.2.2.1) (((Qah (putK XX (w.heap.size + 1 + 1 + 1) (.slice rA9 rs9.length rc9) (.slice mA9 ms9.length mc9) (.slice gA9 gs9.length gc9) (.int .i64 time9) (.slice dA9 ds9.length dc9) (.slice lA9 ls9.length lc9)) (w.heap.size + 1 + 1 + 1 + 1) (.int .i64 (ac)) (.int .i64 (aN)) (.string ak) (.string ax)).cell (p := ⟨(w1.heap.size + 1), 0, none⟩) (Nat.lt_of_lt_of_le M0.2 (Qac XX (w.heap.size + 1 + 1 + 1) (.slice rA9 rs9.length rc9) (.slice mA9 ms9.length mc9) (.slice gA9 gs9.length gc9) (.int .i64 time9) (.slice dA9 ds9.length dc9) (.slice lA9 ls9.length lc9)).size) (by show w1.heap.size + 1 ≠ _; omega)).trans (((Qac XX (w.heap.size + 1 + 1 + 1) (.slice rA9 rs9.length rc9) (.slice mA9 ms9.length mc9) (.slice gA9 gs9.length gc9) (.int .i64 time9) (.slice dA9 ds9.length dc9) (.slice lA9 ls9.length lc9)).cell (p := ⟨(w1.heap.size + 1), 0, none⟩) M0.2 (by show w1.heap.size + 1 ≠ _; omega)).trans M0.1)) (((Qah (putK XX (w.heap.size + 1 + 1 + 1) (.slice rA9 rs9.length rc9) (.slice mA9 ms9.length mc9) (.slice gA9 gs9.length gc9) (.int .i64 time9) (.slice dA9 ds9.length dc9) (.slice lA9 ls9.length lc9)) (w.heap.size + 1 + 1 + 1 + 1) (.int .i64 (ac)) (.int .i64 (aN)) (.string ak) (.string ax)).cell (p := ⟨(w1.heap.size + 1), 1, none⟩) (Nat.lt_of_lt_of_le M1.2 (Qac XX (w.heap.size + 1 + 1 + 1) (.slice rA9 rs9.length rc9) (.slice mA9 ms9.length mc9) (.slice gA9 gs9.length gc9) (.int .i64 time9) (.slice dA9 ds9.length dc9) (.slice lA9 ls9.length lc9)).size) (by show w1.heap.size + 1 ≠ _; omega)).trans (((Qac XX (w.heap.size + 1 + 1 + 1) (.slice rA9 rs9.length rc9) (.slice mA9 ms9.length mc9) (.slice gA9 gs9.length gc9) (.int .i64 time9) (.slice dA9 ds9.length dc9) (.slice lA9 ls9.length lc9)).cell (p := ⟨(w1.heap.size + 1), 1, none⟩) M1.2 (by show w1.heap.size + 1 ≠ _; omega)).trans M1.1)) (((Qah (putK XX (w.heap.size + 1 + 1 + 1) (.slice rA9 rs9.length rc9) (.slice mA9 ms9.length mc9) (.slice gA9 gs9.length gc9) (.int .i64 time9) (.slice dA9 ds9.length dc9) (.slice lA9 ls9.length lc9)) (w.heap.size + 1 + 1 + 1 + 1) (.int .i64 (ac)) (.int .i64 (aN)) (.string ak) (.string ax)).cell (p := ⟨(w1.heap.size + 1), 2, none⟩) (Nat.lt_of_lt_of_le M2.2 (Qac XX (w.heap.size + 1 + 1 + 1) (.slice rA9 rs9.length rc9) (.slice mA9 ms9.length mc9) (.slice gA9 gs9.length gc9) (.int .i64 time9) (.slice dA9 ds9.length dc9) (.slice lA9 ls9.length lc9)).size) (by show w1.heap.size + 1 ≠ _; omega)).trans (((Qac XX (w.heap.size + 1 + 1 + 1) (.slice rA9 rs9.length rc9) (.slice mA9 ms9.length mc9) (.slice gA9 gs9.length gc9) (.int .i64 time9) (.slice dA9 ds9.length dc9) (.slice lA9 ls9.length lc9)).cell (p := ⟨(w1.heap.size + 1), 2, none⟩) M2.2 (by show w1.heap.size + 1 ≠ _; omega)).trans M2.1)) (((Qah (putK XX (w.heap.size + 1 + 1 + 1) (.slice rA9 rs9.length rc9) (.slice mA9 ms9.length mc9) (.slice gA9 gs9.length gc9) (.int .i64 time9) (.slice dA9 ds9.length dc9) (.slice lA9 ls9.length lc9)) (w.heap.size + 1 + 1 + 1 + 1) (.int .i64 (ac)) (.int .i64 (aN)) (.string ak) (.string ax)).cell (p := ⟨(w1.heap.size + 1), 3, none⟩) (Nat.lt_of_lt_of_le M3.2 (Qac XX (w.heap.size + 1 + 1 + 1) (.slice rA9 rs9.length rc9) (.slice mA9 ms9.length mc9) (.slice gA9 gs9.length gc9) (.int .i64 time9) (.slice dA9 ds9.length dc9) (.slice lA9 ls9.length lc9)).size) (by show w1.heap.size + 1 ≠ _; omega)).trans (((Qac XX (w.heap.size + 1 + 1 + 1) (.slice rA9 rs9.length rc9) (.slice mA9 ms9.length mc9) (.slice gA9 gs9.length gc9) (.int .i64 time9) (.slice dA9 ds9.length dc9) (.slice lA9 ls9.length lc9)).cell (p := ⟨(w1.heap.size + 1), 3, none⟩) M3.2 (by show w1.heap.size + 1 ≠ _; omega)).trans M3.1)))
 clear mkS QQ
 refine ztk [0,1] ?_; repeat (refine ztn (hS := hH) (h := ?_); try simp only [zX,zY])
 refine zte ?_
 refine zR1 2 (fun K hK => ?_)
 simp only [zG]
 go_simp
 skip
 refine hK.out _ _ SK.out fun hH => ?_; clear hK K; try simp only [zX,zY]
 refine zR1 3 (fun K hK => ?_)
 simp only [zG]
 go_simp
 skip
 refine hK.out _ _ SN.out fun hH => ?_; clear hK K; try simp only [zX,zY]
 refine zdn ?_
 go_wp2
 exact bodyPost_ret (v := .tuple #[.agg (Qaa rA9 rs9.length rc9 mA9 ms9.length mc9 gA9 gs9.length gc9 time9 dA9 ds9.length dc9 lA9 ls9.length lc9), .agg (Qas (ac) (aN) ak ax)]) (by simp [results, Tryz.results93, go_sem, s0, s1, s2, s3, s4, s5, t0, t1, t2, t3, q0, q1, q2, q3, q4, q5]) rfl TT.out
theorem l6Row_trim (ro wi le ke : Int) (rA : Option Addr) (rc : Nat) (rs : List RC) (mA : Option Addr) (mc : Nat) (ms : List MC) (gA : Option Addr) (gc : Nat) (gs : List GC) (time : Int) (dA : Option Addr) (dc : Nat) (ds : List Int) (lA : Option Addr) (lc : Nat) (ls : List An) (who seq cb cc : Int) (n : Nat) (key text : ByteArray) (S : Nat -> Prop) (br bg bd bl : Nat) (w : World) (hS : ∀ b, S b -> b < w.heap.size) (hq : KQ w (⟨rA, rc, rs, mA, mc, ms, gA, gc, gs, time, dA, dc, ds, lA, lc, ls⟩ : KC) S br bg bd bl) (hn : n < rs.length) (hrl : rs.length <= 1000)
 (st nt : Int) (yA : Option Addr) (yc : Nat) (ym : List It) (hy : rs[n] = ⟨st, nt, yA, yc, ym⟩) (st2 nx : Int) (LL : List It)
 (hc : ∀ W : World, At W yA ym -> Calls Tryz.prog 103 #[.agg (Qaz st nt yA ym.length yc), .int .i64 le, .int .i64 ke] W fun e w' => ∃ v, e = .returned (.agg #[.int .i64 st2, .int .i64 nx, v]) /\ w'.ownsRow W.heap.size 121 5 v LL.length (flat LL) /\ Below W.heap.size W w') :
 Calls Tryz.prog 93 #[.agg (Qan ro wi le ke), .agg (Qaa rA rs.length rc mA ms.length mc gA gs.length gc time dA ds.length dc lA ls.length lc), .agg (Qad who seq 9 (n : Int) cb cc key text)] w fun e w' => Qbu S w w' e { KC.p (⟨rA, rc, rs, mA, mc, ms, gA, gc, gs, time, dA, dc, ds, lA, lc, ls⟩ : KC) with rs := (rs.map RC.p).set n ⟨st2, nx, LL⟩ } ⟨0, st2, ⟨#[]⟩, ⟨#[]⟩⟩ := by
 obtain rfl : rA = (some ⟨br, 0, none⟩) := hq.r.a
 have HQ := hidP hq
 have HC := hidP hc
 have hbr : br < w.heap.size /\ bg < w.heap.size /\ bd < w.heap.size /\ bl < w.heap.size := ⟨hq.r.lt, hq.g.lt, hq.d.lt, hq.l.lt⟩
 have HCl : Hid (∀ W : World, Below w.heap.size w W -> W.cell? ⟨br, n * 3, none⟩ = some (.int .i64 st) /\ W.cell? ⟨br, n * 3 + 1, none⟩ = some (.int .i64 nt) /\ W.cell? ⟨br, n * 3 + 2, none⟩ = some (.slice yA ym.length yc)) := fun W g => by
  have h := (hq.r.i.below hq.r.lt g).getRC n hn
  rw [hy] at h
  simpa only [Nat.zero_add] using h
 have HA : Hid (∀ W : World, Below w.heap.size w W -> At W yA ym) := fun W g => by
  have h := (hq.ri rs[n] (List.getElem_mem hn)).at.below g
  rw [hy] at h
  exact h
 clear hc hy hq
 obtain ⟨I0, S0, B0⟩ := Qa2 ro wi le ke (some ⟨br, 0, none⟩) rc rs mA mc ms gA gc gs time dA dc ds lA lc ls who seq 9 (n : Int) cb cc key text S w hS
 have hn0 : (0 : Int) <= (n : Int) := by omega
 have hn1 : (n : Int) < (rs.length : Int) := by omega
 go_enter Tryz.func93, Tryz.ntmps93
 go_upto_region 1 with fail
 generalize ((((w.alloc (.cells (Qan ro wi le ke) 84)).alloc (.cells (Qaa (some ⟨br, 0, none⟩) rs.length rc mA ms.length mc gA gs.length gc time dA ds.length dc lA ls.length lc) 90)).alloc (.cells (Qad who seq 9 (n : Int) cb cc key text) 105)).alloc (.cells Qab 90)).alloc (.cells Qai 130) = X0 at I0 S0 B0 ⊢
 obtain ⟨c0, c1, c2, c3, c4, c5, c6, c7⟩ := I0.c.row8c
 go_upto_region 18 with fail
 clear c0 c1 c2 c3 c4 c5 c6 c7
 have J0 := I0.drew
 have T0 := S0.drew
 have D0 : Below w.heap.size w X0.drew := B0.drew
 have mkS : ∀ V : World, Bx S w V (w.heap.size + 1) (w.heap.size + 1 + 1) (w.heap.size + 1 + 1 + 1) (w.heap.size + 1 + 1 + 1 + 1) (Qaa (some ⟨br, 0, none⟩) rs.length rc mA ms.length mc gA gs.length gc time dA ds.length dc lA ls.length lc) (Qad who seq 9 (n : Int) cb cc key text) -> Blk V w.heap.size 84 (Qan ro wi le ke) -> Below w.heap.size w V -> (fun (V : World) => V.cell? ⟨(w.heap.size + 1), 0, none⟩ = some (.slice (some ⟨br, 0, none⟩) rs.length rc) /\ V.cell? ⟨(w.heap.size + 1 + 1), 3, none⟩ = some (.int .i64 (n : Int)) /\ V.cell? ⟨w.heap.size, 2, none⟩ = some (.int .i64 le) /\ V.cell? ⟨w.heap.size, 3, none⟩ = some (.int .i64 ke) /\ V.cell? ⟨br, n * 3, none⟩ = some (.int .i64 st) /\ V.cell? ⟨br, n * 3 + 1, none⟩ = some (.int .i64 nt) /\ V.cell? ⟨br, n * 3 + 2, none⟩ = some (.slice yA ym.length yc)) V := fun V q1 q2 q3 => by
  obtain ⟨a0, a1, a2, a3, a4, a5⟩ := q1.k.row6
  obtain ⟨d0, d1, d2, d3, d4, d5, d6, d7⟩ := q1.c.row8c
  obtain ⟨n0, n1, n2, n3⟩ := q2.row4
  obtain ⟨r0, r1, r2⟩ := HCl.out V q3
  exact ⟨a0, d3, n2, n3, r0, r1, r2⟩
 have hH0 := mkS _ J0 T0 D0
 have l0 : w.heap.size + 1 + 1 + 1 + 1 < X0.drew.heap.size := I0.r2.lt
 clear I0 S0 B0
 refine wp_region_noPanic ?_
 have hH : ((fun (V : World) => V.cell? ⟨(w.heap.size + 1), 0, none⟩ = some (.slice (some ⟨br, 0, none⟩) rs.length rc) /\ V.cell? ⟨(w.heap.size + 1 + 1), 3, none⟩ = some (.int .i64 (n : Int)) /\ V.cell? ⟨w.heap.size, 2, none⟩ = some (.int .i64 le) /\ V.cell? ⟨w.heap.size, 3, none⟩ = some (.int .i64 ke) /\ V.cell? ⟨br, n * 3, none⟩ = some (.int .i64 st) /\ V.cell? ⟨br, n * 3 + 1, none⟩ = some (.int .i64 nt) /\ V.cell? ⟨br, n * 3 + 2, none⟩ = some (.slice yA ym.length yc))) _ := hH0
 refine Qbb 16 ((fun (V : World) => V.cell? ⟨(w.heap.size + 1), 0, none⟩ = some (.slice (some ⟨br, 0, none⟩) rs.length rc) /\ V.cell? ⟨(w.heap.size + 1 + 1), 3, none⟩ = some (.int .i64 (n : Int)) /\ V.cell? ⟨w.heap.size, 2, none⟩ = some (.int .i64 le) /\ V.cell? ⟨w.heap.size, 3, none⟩ = some (.int .i64 ke) /\ V.cell? ⟨br, n * 3, none⟩ = some (.int .i64 st) /\ V.cell? ⟨br, n * 3 + 1, none⟩ = some (.int .i64 nt) /\ V.cell? ⟨br, n * 3 + 2, none⟩ = some (.slice yA ym.length yc))) (by kernel_rfl) ?_
 refine zpk [0,1,2,3,4,5,6,7,8,9,10,11,12,13] ?_; repeat (refine zpn (h := ?_); try simp only [zX,zY])
 refine zpe ?_
 refine Qar (i := 14) (by kernel_rfl) rfl (fun K hK => ?_)
 simp only [zG]
 go_simp; refine (HC.out _ (HA.out _ D0)).mono ?_; rintro e w3 ⟨v3, rfl, o3, g3⟩; obtain ⟨a5, e5, rfl, _⟩ := Qao o3; have I3 := J0.below g3; have T3 := T0.below g3 T0.lt; have D3 : Below w.heap.size w w3 := via0 g3 D0; have hH3 := mkS _ I3 T3 D3; obtain ⟨r0, r1, r2⟩ := HCl.out _ D3; have hth := (HQ.out.below D3).r.th; have fz : ∀ j, j < 3 -> w3.frozen? ⟨br, n * 3 + j, none⟩ = false := (fun j hj => by have h9 := (hth (n * 3 + j) (by show n * 3 + j < rs.length * 3; omega)).2; rwa [Nat.zero_add] at h9); have f0 : w3.frozen? ⟨br, n * 3, none⟩ = false := fz 0 (by omega); have f1 := fz 1 (by omega); have f2 := fz 2 (by omega); have hk6 : Only br w3 (((w3.setCell ⟨br, n * 3, none⟩ (.int .i64 st2)).setCell ⟨br, n * 3 + 1, none⟩ (.int .i64 nx)).setCell ⟨br, n * 3 + 2, none⟩ (.slice a5 LL.length e5)) := (((Only.refl br w3).set _ _).set _ _).set _ _; have Q6 : Hid (KQ (((w3.setCell ⟨br, n * 3, none⟩ (.int .i64 st2)).setCell ⟨br, n * 3 + 1, none⟩ (.int .i64 nx)).setCell ⟨br, n * 3 + 2, none⟩ (.slice a5 LL.length e5)) { (⟨(some ⟨br, 0, none⟩), rc, rs, mA, mc, ms, gA, gc, gs, time, dA, dc, ds, lA, lc, ls⟩ : KC) with rs := rs.set n ⟨st2, nx, a5, e5, LL⟩ } (fun b => S b ∨ (w.heap.size <= b /\ b ≠ (w.heap.size + 1 + 1 + 1) /\ b ≠ (w.heap.size + 1 + 1 + 1 + 1))) br bg bd bl) := (((HQ.out.below D3).mono (S' := fun b => S b ∨ (w.heap.size <= b /\ b ≠ (w.heap.size + 1 + 1 + 1) /\ b ≠ (w.heap.size + 1 + 1 + 1 + 1))) (fun b _ hb => .inl hb)).setR n hn ⟨st2, nx, a5, e5, LL⟩ (Av.of_own o3 (fun x hx => ⟨.inr (by omega), by omega, by omega, by omega, by omega⟩))); have I6 := I3.turn (Offp.of_only hk6) (fun b e => .inl (by subst e; exact HQ.out.s.1)); have C6 : ((((w3.setCell ⟨br, n * 3, none⟩ (.int .i64 st2)).setCell ⟨br, n * 3 + 1, none⟩ (.int .i64 nx)).setCell ⟨br, n * 3 + 2, none⟩ (.slice a5 LL.length e5))).cell? ⟨br, n * 3, none⟩ = some (.int .i64 st2) := (by have h := Q6.out.r.i.getRC n (by simpa using hn); simp only [List.getElem_set_self, Nat.zero_add] at h; exact h.1); clear hth fz hk6 g3 o3 I3 T3 D3
 refine hK.out _ _ (.inr hH3) ?_
 clear hK K
 try simp only [zX,zY]
 refine zp1 15 ?_; refine zpn (h := ?_); try simp only [zX,zY]
 refine zpe ?_
 refine Qar (i := 16) (by kernel_rfl) rfl (fun K hK => ?_)
 simp only [zG]
 go_simp
 refine hK.out _ _ (.inl rfl) ?_
 clear hK K
 try simp only [zX,zY]
 refine Qbn (by kernel_rfl) ?_ _
 refine NoPanic.normal ?_
 clear hH0 mkS
 clear J0 T0 D0 r0 r1 r2 f0 f1 f2
 generalize (((w3.setCell ⟨br, n * 3, none⟩ (.int .i64 st2)).setCell ⟨br, n * 3 + 1, none⟩ (.int .i64 nx)).setCell ⟨br, n * 3 + 2, none⟩ (.slice a5 LL.length e5)) = X6 at Q6 I6 C6 ⊢
 go_upto_region 19 with fail
 obtain ⟨c0, c1, c2, c3, c4, c5, c6, c7⟩ := I6.c.row8c
 have cl := I6.c.lt
 have bl9 := Q6.out.r.lt
 have mkS : ∀ V : World, Blk V (w.heap.size + 1) 90 (Qaa (some ⟨br, 0, none⟩) rs.length rc mA ms.length mc gA gs.length gc time dA ds.length dc lA ls.length lc) -> V.cell? ⟨(w.heap.size + 1 + 1), 3, none⟩ = some (.int .i64 (n : Int)) -> V.cell? ⟨br, n * 3, none⟩ = some (.int .i64 st2) -> (fun (V : World) => V.cell? ⟨(w.heap.size + 1), 0, none⟩ = some (.slice (some ⟨br, 0, none⟩) rs.length rc) /\ V.cell? ⟨(w.heap.size + 1), 1, none⟩ = some (.slice mA ms.length mc) /\ V.cell? ⟨(w.heap.size + 1), 2, none⟩ = some (.slice gA gs.length gc) /\ V.cell? ⟨(w.heap.size + 1), 3, none⟩ = some (.int .i64 time) /\ V.cell? ⟨(w.heap.size + 1), 4, none⟩ = some (.slice dA ds.length dc) /\ V.cell? ⟨(w.heap.size + 1), 5, none⟩ = some (.slice lA ls.length lc) /\ V.cell? ⟨(w.heap.size + 1 + 1), 3, none⟩ = some (.int .i64 (n : Int)) /\ V.cell? ⟨br, n * 3, none⟩ = some (.int .i64 st2)) V := fun V hk hm0 hm1 => by obtain ⟨a0, a1, a2, a3, a4, a5⟩ := hk.row6; exact ⟨a0, a1, a2, a3, a4, a5, hm0, hm1⟩
 have SW := mkS _ I6.k.drew (c3) (C6)
 have J := I6.drew
 have QQ := hidP (Q6.out.below (Below.refl _ _).drew)
 have M0 : X6.drew.cell? ⟨(w.heap.size + 1 + 1), 3, none⟩ = some (.int .i64 (n : Int)) /\ (w.heap.size + 1 + 1) < X6.drew.heap.size := ⟨c3, cl⟩
 have M1 : X6.drew.cell? ⟨br, n * 3, none⟩ = some (.int .i64 st2) /\ br < X6.drew.heap.size := ⟨C6, bl9⟩
 refine wp_region_noPanic ?_
 refine wp_region_held_drew (S := (fun (V : World) => V.cell? ⟨(w.heap.size + 1), 0, none⟩ = some (.slice (some ⟨br, 0, none⟩) rs.length rc) /\ V.cell? ⟨(w.heap.size + 1), 1, none⟩ = some (.slice mA ms.length mc) /\ V.cell? ⟨(w.heap.size + 1), 2, none⟩ = some (.slice gA gs.length gc) /\ V.cell? ⟨(w.heap.size + 1), 3, none⟩ = some (.int .i64 time) /\ V.cell? ⟨(w.heap.size + 1), 4, none⟩ = some (.slice dA ds.length dc) /\ V.cell? ⟨(w.heap.size + 1), 5, none⟩ = some (.slice lA ls.length lc) /\ V.cell? ⟨(w.heap.size + 1 + 1), 3, none⟩ = some (.int .i64 (n : Int)) /\ V.cell? ⟨br, n * 3, none⟩ = some (.int .i64 st2))) (by kernel_rfl) ?_ (fun hH => ?_)
 . exact SW
 clear SW hH
 generalize X6.drew = XX at J QQ M0 M1 ⊢
 have hH := mkS XX J.k M0.1 M1.1
 have TT := hidP (Bx.told J (y := ({ (⟨(some ⟨br, 0, none⟩), rc, rs, mA, mc, ms, gA, gc, gs, time, dA, dc, ds, lA, lc, ls⟩ : KC) with rs := rs.set n ⟨st2, nx, a5, e5, LL⟩ } : KC)) (br := br) (bg := bg) (bd := bd) (bl := bl) (QQ.out) (⟨(0), (st2), (⟨#[]⟩), (⟨#[]⟩)⟩ : An) (hv := show _ = (Qaa (some ⟨br, 0, none⟩) rs.length rc mA ms.length mc gA gs.length gc time dA ds.length dc lA ls.length lc) by simp only [KC.cells, List.length_set]))
 obtain ⟨z0, z1, z2, z3, z4, z5⟩ := J.r1.row6
 have f0 := J.r1.thaw 0; have f1 := J.r1.thaw 1; have f2 := J.r1.thaw 2; have f3 := J.r1.thaw 3; have f4 := J.r1.thaw 4; have f5 := J.r1.thaw 5
 obtain ⟨k0, k1, k2, k3, k4, k5⟩ := J.k.row6
 have R2 := J.r2.only (Qac _ (w.heap.size + 1 + 1 + 1) (.slice (some ⟨br, 0, none⟩) rs.length rc) (.slice mA ms.length mc) (.slice gA gs.length gc) (.int .i64 time) (.slice dA ds.length dc) (.slice lA ls.length lc)) (fun e => J.ne.2.2.2.2.2 e.symm)
 obtain ⟨y0, y1, y2, y3⟩ := R2.row4
 have ee0 := R2.thaw 0; have ee1 := R2.thaw 1; have ee2 := R2.thaw 2; have ee3 := R2.thaw 3
 have C1 := Qat J.r1 (.slice (some ⟨br, 0, none⟩) rs.length rc) (.slice mA ms.length mc) (.slice gA gs.length gc) (.int .i64 time) (.slice dA ds.length dc) (.slice lA ls.length lc)
 have B1 := (Qax J.r1 (.slice (some ⟨br, 0, none⟩) rs.length rc) (.slice mA ms.length mc) (.slice gA gs.length gc) (.int .i64 time) (.slice dA ds.length dc) (.slice lA ls.length lc)).only (Qah _ (w.heap.size + 1 + 1 + 1 + 1) (.int .i64 (0)) (.int .i64 (st2)) (.string ⟨#[]⟩) (.string ⟨#[]⟩)) (fun e => J.ne.2.2.2.2.2 e)
 have C2 := Qau R2 (.int .i64 (0)) (.int .i64 (st2)) (.string ⟨#[]⟩) (.string ⟨#[]⟩)
 obtain ⟨s0, s1, s2, s3, s4, s5⟩ := C1
 obtain ⟨t0, t1, t2, t3⟩ := C2
 obtain ⟨q0, q1, q2, q3, q4, q5⟩ := B1.row6
 have hne12 : (w.heap.size + 1 + 1 + 1) ≠ (w.heap.size + 1 + 1 + 1 + 1) := J.ne.2.2.2.2.2
 have hne21 : (w.heap.size + 1 + 1 + 1 + 1) ≠ (w.heap.size + 1 + 1 + 1) := fun e => J.ne.2.2.2.2.2 e.symm
 have SK := hidP (mkS _ (J.k.only (Qac _ (w.heap.size + 1 + 1 + 1) (.slice (some ⟨br, 0, none⟩) rs.length rc) (.slice mA ms.length mc) (.slice gA gs.length gc) (.int .i64 time) (.slice dA ds.length dc) (.slice lA ls.length lc)) J.ne.2.1) (((Qac XX (w.heap.size + 1 + 1 + 1) (.slice (some ⟨br, 0, none⟩) rs.length rc) (.slice mA ms.length mc) (.slice gA gs.length gc) (.int .i64 time) (.slice dA ds.length dc) (.slice lA ls.length lc)).cell (p := ⟨(w.heap.size + 1 + 1), 3, none⟩) M0.2 (by show w.heap.size + 1 + 1 ≠ _; omega)).trans M0.1) (((Qac XX (w.heap.size + 1 + 1 + 1) (.slice (some ⟨br, 0, none⟩) rs.length rc) (.slice mA ms.length mc) (.slice gA gs.length gc) (.int .i64 time) (.slice dA ds.length dc) (.slice lA ls.length lc)).cell (p := ⟨br, n * 3, none⟩) M1.2 (by show br ≠ _; omega)).trans M1.1))
 have SN := hidP (mkS _ ((J.k.only (Qac _ (w.heap.size + 1 + 1 + 1) (.slice (some ⟨br, 0, none⟩) rs.length rc) (.slice mA ms.length mc) (.slice gA gs.length gc) (.int .i64 time) (.slice dA ds.length dc) (.slice lA ls.length lc)) J.ne.2.1).only (Qah _ (w.heap.size + 1 + 1 + 1 + 1) (.int .i64 (0)) (.int .i64 (st2)) (.string ⟨#[]⟩) (.string ⟨#[]⟩)) J.ne.2.2.1) (((Qah (putK XX (w.heap.size + 1 + 1 + 1) (.slice (some ⟨br, 0, none⟩) rs.length rc) (.slice mA ms.length mc) (.slice gA gs.length gc) (.int .i64 time) (.slice dA ds.length dc) (.slice lA ls.length lc)) (w.heap.size + 1 + 1 + 1 + 1) (.int .i64 (0)) (.int .i64 (st2)) (.string ⟨#[]⟩) (.string ⟨#[]⟩)).cell (p := ⟨(w.heap.size + 1 + 1), 3, none⟩) (Nat.lt_of_lt_of_le M0.2 (Qac XX (w.heap.size + 1 + 1 + 1) (.slice (some ⟨br, 0, none⟩) rs.length rc) (.slice mA ms.length mc) (.slice gA gs.length gc) (.int .i64 time) (.slice dA ds.length dc) (.slice lA ls.length lc)).size) (by show w.heap.size + 1 + 1 ≠ _; omega)).trans (((Qac XX (w.heap.size + 1 + 1 + 1) (.slice (some ⟨br, 0, none⟩) rs.length rc) (.slice mA ms.length mc) (.slice gA gs.length gc) (.int .i64 time) (.slice dA ds.length dc) (.slice lA ls.length lc)).cell (p := ⟨(w.heap.size + 1 + 1), 3, none⟩) M0.2 (by show w.heap.size + 1 + 1 ≠ _; omega)).trans M0.1)) (((Qah (putK XX (w.heap.size + 1 + 1 + 1) (.slice (some ⟨br, 0, none⟩) rs.length rc) (.slice mA ms.length mc) (.slice gA gs.length gc) (.int .i64 time) (.slice dA ds.length dc) (.slice lA ls.length lc)) (w.heap.size + 1 + 1 + 1 + 1) (.int .i64 (0)) (.int .i64 (st2)) (.string ⟨#[]⟩) (.string ⟨#[]⟩)).cell (p := ⟨br, n * 3, none⟩) (Nat.lt_of_lt_of_le M1.2 (Qac XX (w.heap.size + 1 + 1 + 1) (.slice (some ⟨br, 0, none⟩) rs.length rc) (.slice mA ms.length mc) (.slice gA gs.length gc) (.int .i64 time) (.slice dA ds.length dc) (.slice lA ls.length lc)).size) (by show br ≠ _; omega)).trans (((Qac XX (w.heap.size + 1 + 1 + 1) (.slice (some ⟨br, 0, none⟩) rs.length rc) (.slice mA ms.length mc) (.slice gA gs.length gc) (.int .i64 time) (.slice dA ds.length dc) (.slice lA ls.length lc)).cell (p := ⟨br, n * 3, none⟩) M1.2 (by show br ≠ _; omega)).trans M1.1)))
 clear mkS QQ
 refine ztk [0,1,2,3,4,5,6,7,8] ?_; repeat (refine ztn (hS := hH) (h := ?_); try simp only [zX,zY])
 refine zte ?_
 refine zR1 9 (fun K hK => ?_)
 simp only [zG]
 go_simp
 skip
 refine hK.out _ _ SK.out fun hH => ?_; clear hK K; try simp only [zX,zY]
 refine zR1 10 (fun K hK => ?_)
 simp only [zG]
 go_simp
 skip
 refine hK.out _ _ SN.out fun hH => ?_; clear hK K; try simp only [zX,zY]
 refine zdn ?_
 go_wp2
 exact bodyPost_ret (v := .tuple #[.agg (Qaa (some ⟨br, 0, none⟩) rs.length rc mA ms.length mc gA gs.length gc time dA ds.length dc lA ls.length lc), .agg (Qas (0) (st2) ⟨#[]⟩ ⟨#[]⟩)]) (by simp [results, Tryz.results93, go_sem, s0, s1, s2, s3, s4, s5, t0, t1, t2, t3, q0, q1, q2, q3, q4, q5]) rfl (by have h := TT.out; simp only [KC.p, List.map_set] at h; exact h)
theorem l6Row_pack (ro wi le ke : Int) (rA : Option Addr) (rc : Nat) (rs : List RC) (mA : Option Addr) (mc : Nat) (ms : List MC) (gA : Option Addr) (gc : Nat) (gs : List GC) (time : Int) (dA : Option Addr) (dc : Nat) (ds : List Int) (lA : Option Addr) (lc : Nat) (ls : List An) (who seq cb cc : Int) (n : Nat) (key text : ByteArray) (S : Nat -> Prop) (br bg bd bl : Nat) (w : World) (hS : ∀ b, S b -> b < w.heap.size) (hq : KQ w (⟨rA, rc, rs, mA, mc, ms, gA, gc, gs, time, dA, dc, ds, lA, lc, ls⟩ : KC) S br bg bd bl) (hn : n < rs.length) (hrl : rs.length <= 1000)
 (st nt : Int) (yA : Option Addr) (yc : Nat) (ym : List It) (hy : rs[n] = ⟨st, nt, yA, yc, ym⟩) (st2 nx : Int) (LL : List It)
 (hc : ∀ W : World, At W yA ym -> Calls Tryz.prog 104 #[.agg (Qaz st nt yA ym.length yc), .int .i64 le] W fun e w' => ∃ v, e = .returned (.agg #[.int .i64 st2, .int .i64 nx, v]) /\ w'.ownsRow W.heap.size 121 5 v LL.length (flat LL) /\ Below W.heap.size W w') :
 Calls Tryz.prog 93 #[.agg (Qan ro wi le ke), .agg (Qaa rA rs.length rc mA ms.length mc gA gs.length gc time dA ds.length dc lA ls.length lc), .agg (Qad who seq 10 (n : Int) cb cc key text)] w fun e w' => Qbu S w w' e { KC.p (⟨rA, rc, rs, mA, mc, ms, gA, gc, gs, time, dA, dc, ds, lA, lc, ls⟩ : KC) with rs := (rs.map RC.p).set n ⟨st2, nx, LL⟩ } ⟨0, st2, ⟨#[]⟩, ⟨#[]⟩⟩ := by
 obtain rfl : rA = (some ⟨br, 0, none⟩) := hq.r.a
 have HQ := hidP hq
 have HC := hidP hc
 have hbr : br < w.heap.size /\ bg < w.heap.size /\ bd < w.heap.size /\ bl < w.heap.size := ⟨hq.r.lt, hq.g.lt, hq.d.lt, hq.l.lt⟩
 have HCl : Hid (∀ W : World, Below w.heap.size w W -> W.cell? ⟨br, n * 3, none⟩ = some (.int .i64 st) /\ W.cell? ⟨br, n * 3 + 1, none⟩ = some (.int .i64 nt) /\ W.cell? ⟨br, n * 3 + 2, none⟩ = some (.slice yA ym.length yc)) := fun W g => by
  have h := (hq.r.i.below hq.r.lt g).getRC n hn
  rw [hy] at h
  simpa only [Nat.zero_add] using h
 have HA : Hid (∀ W : World, Below w.heap.size w W -> At W yA ym) := fun W g => by
  have h := (hq.ri rs[n] (List.getElem_mem hn)).at.below g
  rw [hy] at h
  exact h
 clear hc hy hq
 obtain ⟨I0, S0, B0⟩ := Qa2 ro wi le ke (some ⟨br, 0, none⟩) rc rs mA mc ms gA gc gs time dA dc ds lA lc ls who seq 10 (n : Int) cb cc key text S w hS
 have hn0 : (0 : Int) <= (n : Int) := by omega
 have hn1 : (n : Int) < (rs.length : Int) := by omega
 go_enter Tryz.func93, Tryz.ntmps93
 go_upto_region 1 with fail
 generalize ((((w.alloc (.cells (Qan ro wi le ke) 84)).alloc (.cells (Qaa (some ⟨br, 0, none⟩) rs.length rc mA ms.length mc gA gs.length gc time dA ds.length dc lA ls.length lc) 90)).alloc (.cells (Qad who seq 10 (n : Int) cb cc key text) 105)).alloc (.cells Qab 90)).alloc (.cells Qai 130) = X0 at I0 S0 B0 ⊢
 obtain ⟨c0, c1, c2, c3, c4, c5, c6, c7⟩ := I0.c.row8c
 go_upto_region 2 with fail
 clear c0 c1 c2 c3 c4 c5 c6 c7
 have J0 := I0.drew
 have T0 := S0.drew
 have D0 : Below w.heap.size w X0.drew := B0.drew
 have mkS : ∀ V : World, Bx S w V (w.heap.size + 1) (w.heap.size + 1 + 1) (w.heap.size + 1 + 1 + 1) (w.heap.size + 1 + 1 + 1 + 1) (Qaa (some ⟨br, 0, none⟩) rs.length rc mA ms.length mc gA gs.length gc time dA ds.length dc lA ls.length lc) (Qad who seq 10 (n : Int) cb cc key text) -> Blk V w.heap.size 84 (Qan ro wi le ke) -> Below w.heap.size w V -> (fun (V : World) => V.cell? ⟨(w.heap.size + 1), 0, none⟩ = some (.slice (some ⟨br, 0, none⟩) rs.length rc) /\ V.cell? ⟨(w.heap.size + 1 + 1), 3, none⟩ = some (.int .i64 (n : Int)) /\ V.cell? ⟨w.heap.size, 2, none⟩ = some (.int .i64 le) /\ V.cell? ⟨w.heap.size, 3, none⟩ = some (.int .i64 ke) /\ V.cell? ⟨br, n * 3, none⟩ = some (.int .i64 st) /\ V.cell? ⟨br, n * 3 + 1, none⟩ = some (.int .i64 nt) /\ V.cell? ⟨br, n * 3 + 2, none⟩ = some (.slice yA ym.length yc)) V := fun V q1 q2 q3 => by
  obtain ⟨a0, a1, a2, a3, a4, a5⟩ := q1.k.row6
  obtain ⟨d0, d1, d2, d3, d4, d5, d6, d7⟩ := q1.c.row8c
  obtain ⟨n0, n1, n2, n3⟩ := q2.row4
  obtain ⟨r0, r1, r2⟩ := HCl.out V q3
  exact ⟨a0, d3, n2, n3, r0, r1, r2⟩
 have hH0 := mkS _ J0 T0 D0
 have l0 : w.heap.size + 1 + 1 + 1 + 1 < X0.drew.heap.size := I0.r2.lt
 clear I0 S0 B0
 refine wp_region_noPanic ?_
 have hH : ((fun (V : World) => V.cell? ⟨(w.heap.size + 1), 0, none⟩ = some (.slice (some ⟨br, 0, none⟩) rs.length rc) /\ V.cell? ⟨(w.heap.size + 1 + 1), 3, none⟩ = some (.int .i64 (n : Int)) /\ V.cell? ⟨w.heap.size, 2, none⟩ = some (.int .i64 le) /\ V.cell? ⟨w.heap.size, 3, none⟩ = some (.int .i64 ke) /\ V.cell? ⟨br, n * 3, none⟩ = some (.int .i64 st) /\ V.cell? ⟨br, n * 3 + 1, none⟩ = some (.int .i64 nt) /\ V.cell? ⟨br, n * 3 + 2, none⟩ = some (.slice yA ym.length yc))) _ := hH0
 refine Qbb 14 ((fun (V : World) => V.cell? ⟨(w.heap.size + 1), 0, none⟩ = some (.slice (some ⟨br, 0, none⟩) rs.length rc) /\ V.cell? ⟨(w.heap.size + 1 + 1), 3, none⟩ = some (.int .i64 (n : Int)) /\ V.cell? ⟨w.heap.size, 2, none⟩ = some (.int .i64 le) /\ V.cell? ⟨w.heap.size, 3, none⟩ = some (.int .i64 ke) /\ V.cell? ⟨br, n * 3, none⟩ = some (.int .i64 st) /\ V.cell? ⟨br, n * 3 + 1, none⟩ = some (.int .i64 nt) /\ V.cell? ⟨br, n * 3 + 2, none⟩ = some (.slice yA ym.length yc))) (by kernel_rfl) ?_
 refine zpk [0,1,2,3,4,5,6,7,8,9,10,11] ?_; repeat (refine zpn (h := ?_); try simp only [zX,zY])
 refine zpe ?_
 refine Qar (i := 12) (by kernel_rfl) rfl (fun K hK => ?_)
 simp only [zG]
 go_simp; refine (HC.out _ (HA.out _ D0)).mono ?_; rintro e w3 ⟨v3, rfl, o3, g3⟩; obtain ⟨a5, e5, rfl, _⟩ := Qao o3; have I3 := J0.below g3; have T3 := T0.below g3 T0.lt; have D3 : Below w.heap.size w w3 := via0 g3 D0; have hH3 := mkS _ I3 T3 D3; obtain ⟨r0, r1, r2⟩ := HCl.out _ D3; have hth := (HQ.out.below D3).r.th; have fz : ∀ j, j < 3 -> w3.frozen? ⟨br, n * 3 + j, none⟩ = false := (fun j hj => by have h9 := (hth (n * 3 + j) (by show n * 3 + j < rs.length * 3; omega)).2; rwa [Nat.zero_add] at h9); have f0 : w3.frozen? ⟨br, n * 3, none⟩ = false := fz 0 (by omega); have f1 := fz 1 (by omega); have f2 := fz 2 (by omega); have hk6 : Only br w3 (((w3.setCell ⟨br, n * 3, none⟩ (.int .i64 st2)).setCell ⟨br, n * 3 + 1, none⟩ (.int .i64 nx)).setCell ⟨br, n * 3 + 2, none⟩ (.slice a5 LL.length e5)) := (((Only.refl br w3).set _ _).set _ _).set _ _; have Q6 : Hid (KQ (((w3.setCell ⟨br, n * 3, none⟩ (.int .i64 st2)).setCell ⟨br, n * 3 + 1, none⟩ (.int .i64 nx)).setCell ⟨br, n * 3 + 2, none⟩ (.slice a5 LL.length e5)) { (⟨(some ⟨br, 0, none⟩), rc, rs, mA, mc, ms, gA, gc, gs, time, dA, dc, ds, lA, lc, ls⟩ : KC) with rs := rs.set n ⟨st2, nx, a5, e5, LL⟩ } (fun b => S b ∨ (w.heap.size <= b /\ b ≠ (w.heap.size + 1 + 1 + 1) /\ b ≠ (w.heap.size + 1 + 1 + 1 + 1))) br bg bd bl) := (((HQ.out.below D3).mono (S' := fun b => S b ∨ (w.heap.size <= b /\ b ≠ (w.heap.size + 1 + 1 + 1) /\ b ≠ (w.heap.size + 1 + 1 + 1 + 1))) (fun b _ hb => .inl hb)).setR n hn ⟨st2, nx, a5, e5, LL⟩ (Av.of_own o3 (fun x hx => ⟨.inr (by omega), by omega, by omega, by omega, by omega⟩))); have I6 := I3.turn (Offp.of_only hk6) (fun b e => .inl (by subst e; exact HQ.out.s.1)); have C6 : ((((w3.setCell ⟨br, n * 3, none⟩ (.int .i64 st2)).setCell ⟨br, n * 3 + 1, none⟩ (.int .i64 nx)).setCell ⟨br, n * 3 + 2, none⟩ (.slice a5 LL.length e5))).cell? ⟨br, n * 3, none⟩ = some (.int .i64 st2) := (by have h := Q6.out.r.i.getRC n (by simpa using hn); simp only [List.getElem_set_self, Nat.zero_add] at h; exact h.1); clear hth fz hk6 g3 o3 I3 T3 D3
 refine hK.out _ _ (.inr hH3) ?_
 clear hK K
 try simp only [zX,zY]
 refine zp1 13 ?_; refine zpn (h := ?_); try simp only [zX,zY]
 refine zpe ?_
 refine Qar (i := 14) (by kernel_rfl) rfl (fun K hK => ?_)
 simp only [zG]
 go_simp
 refine hK.out _ _ (.inl rfl) ?_
 clear hK K
 try simp only [zX,zY]
 refine Qbn (by kernel_rfl) ?_ _
 refine NoPanic.normal ?_
 clear hH0 mkS
 clear J0 T0 D0 r0 r1 r2 f0 f1 f2
 generalize (((w3.setCell ⟨br, n * 3, none⟩ (.int .i64 st2)).setCell ⟨br, n * 3 + 1, none⟩ (.int .i64 nx)).setCell ⟨br, n * 3 + 2, none⟩ (.slice a5 LL.length e5)) = X6 at Q6 I6 C6 ⊢
 go_upto_region 19 with fail
 obtain ⟨c0, c1, c2, c3, c4, c5, c6, c7⟩ := I6.c.row8c
 have cl := I6.c.lt
 have bl9 := Q6.out.r.lt
 have mkS : ∀ V : World, Blk V (w.heap.size + 1) 90 (Qaa (some ⟨br, 0, none⟩) rs.length rc mA ms.length mc gA gs.length gc time dA ds.length dc lA ls.length lc) -> V.cell? ⟨(w.heap.size + 1 + 1), 3, none⟩ = some (.int .i64 (n : Int)) -> V.cell? ⟨br, n * 3, none⟩ = some (.int .i64 st2) -> (fun (V : World) => V.cell? ⟨(w.heap.size + 1), 0, none⟩ = some (.slice (some ⟨br, 0, none⟩) rs.length rc) /\ V.cell? ⟨(w.heap.size + 1), 1, none⟩ = some (.slice mA ms.length mc) /\ V.cell? ⟨(w.heap.size + 1), 2, none⟩ = some (.slice gA gs.length gc) /\ V.cell? ⟨(w.heap.size + 1), 3, none⟩ = some (.int .i64 time) /\ V.cell? ⟨(w.heap.size + 1), 4, none⟩ = some (.slice dA ds.length dc) /\ V.cell? ⟨(w.heap.size + 1), 5, none⟩ = some (.slice lA ls.length lc) /\ V.cell? ⟨(w.heap.size + 1 + 1), 3, none⟩ = some (.int .i64 (n : Int)) /\ V.cell? ⟨br, n * 3, none⟩ = some (.int .i64 st2)) V := fun V hk hm0 hm1 => by obtain ⟨a0, a1, a2, a3, a4, a5⟩ := hk.row6; exact ⟨a0, a1, a2, a3, a4, a5, hm0, hm1⟩
 have SW := mkS _ I6.k.drew (c3) (C6)
 have J := I6.drew
 have QQ := hidP (Q6.out.below (Below.refl _ _).drew)
 have M0 : X6.drew.cell? ⟨(w.heap.size + 1 + 1), 3, none⟩ = some (.int .i64 (n : Int)) /\ (w.heap.size + 1 + 1) < X6.drew.heap.size := ⟨c3, cl⟩
 have M1 : X6.drew.cell? ⟨br, n * 3, none⟩ = some (.int .i64 st2) /\ br < X6.drew.heap.size := ⟨C6, bl9⟩
 refine wp_region_noPanic ?_
 refine wp_region_held_drew (S := (fun (V : World) => V.cell? ⟨(w.heap.size + 1), 0, none⟩ = some (.slice (some ⟨br, 0, none⟩) rs.length rc) /\ V.cell? ⟨(w.heap.size + 1), 1, none⟩ = some (.slice mA ms.length mc) /\ V.cell? ⟨(w.heap.size + 1), 2, none⟩ = some (.slice gA gs.length gc) /\ V.cell? ⟨(w.heap.size + 1), 3, none⟩ = some (.int .i64 time) /\ V.cell? ⟨(w.heap.size + 1), 4, none⟩ = some (.slice dA ds.length dc) /\ V.cell? ⟨(w.heap.size + 1), 5, none⟩ = some (.slice lA ls.length lc) /\ V.cell? ⟨(w.heap.size + 1 + 1), 3, none⟩ = some (.int .i64 (n : Int)) /\ V.cell? ⟨br, n * 3, none⟩ = some (.int .i64 st2))) (by kernel_rfl) ?_ (fun hH => ?_)
 . exact SW
 clear SW hH
 generalize X6.drew = XX at J QQ M0 M1 ⊢
 have hH := mkS XX J.k M0.1 M1.1
 have TT := hidP (Bx.told J (y := ({ (⟨(some ⟨br, 0, none⟩), rc, rs, mA, mc, ms, gA, gc, gs, time, dA, dc, ds, lA, lc, ls⟩ : KC) with rs := rs.set n ⟨st2, nx, a5, e5, LL⟩ } : KC)) (br := br) (bg := bg) (bd := bd) (bl := bl) (QQ.out) (⟨(0), (st2), (⟨#[]⟩), (⟨#[]⟩)⟩ : An) (hv := show _ = (Qaa (some ⟨br, 0, none⟩) rs.length rc mA ms.length mc gA gs.length gc time dA ds.length dc lA ls.length lc) by simp only [KC.cells, List.length_set]))
 obtain ⟨z0, z1, z2, z3, z4, z5⟩ := J.r1.row6
 have f0 := J.r1.thaw 0; have f1 := J.r1.thaw 1; have f2 := J.r1.thaw 2; have f3 := J.r1.thaw 3; have f4 := J.r1.thaw 4; have f5 := J.r1.thaw 5
 obtain ⟨k0, k1, k2, k3, k4, k5⟩ := J.k.row6
 have R2 := J.r2.only (Qac _ (w.heap.size + 1 + 1 + 1) (.slice (some ⟨br, 0, none⟩) rs.length rc) (.slice mA ms.length mc) (.slice gA gs.length gc) (.int .i64 time) (.slice dA ds.length dc) (.slice lA ls.length lc)) (fun e => J.ne.2.2.2.2.2 e.symm)
 obtain ⟨y0, y1, y2, y3⟩ := R2.row4
 have ee0 := R2.thaw 0; have ee1 := R2.thaw 1; have ee2 := R2.thaw 2; have ee3 := R2.thaw 3
 have C1 := Qat J.r1 (.slice (some ⟨br, 0, none⟩) rs.length rc) (.slice mA ms.length mc) (.slice gA gs.length gc) (.int .i64 time) (.slice dA ds.length dc) (.slice lA ls.length lc)
 have B1 := (Qax J.r1 (.slice (some ⟨br, 0, none⟩) rs.length rc) (.slice mA ms.length mc) (.slice gA gs.length gc) (.int .i64 time) (.slice dA ds.length dc) (.slice lA ls.length lc)).only (Qah _ (w.heap.size + 1 + 1 + 1 + 1) (.int .i64 (0)) (.int .i64 (st2)) (.string ⟨#[]⟩) (.string ⟨#[]⟩)) (fun e => J.ne.2.2.2.2.2 e)
 have C2 := Qau R2 (.int .i64 (0)) (.int .i64 (st2)) (.string ⟨#[]⟩) (.string ⟨#[]⟩)
 obtain ⟨s0, s1, s2, s3, s4, s5⟩ := C1
 obtain ⟨t0, t1, t2, t3⟩ := C2
 obtain ⟨q0, q1, q2, q3, q4, q5⟩ := B1.row6
 have hne12 : (w.heap.size + 1 + 1 + 1) ≠ (w.heap.size + 1 + 1 + 1 + 1) := J.ne.2.2.2.2.2
 have hne21 : (w.heap.size + 1 + 1 + 1 + 1) ≠ (w.heap.size + 1 + 1 + 1) := fun e => J.ne.2.2.2.2.2 e.symm
 have SK := hidP (mkS _ (J.k.only (Qac _ (w.heap.size + 1 + 1 + 1) (.slice (some ⟨br, 0, none⟩) rs.length rc) (.slice mA ms.length mc) (.slice gA gs.length gc) (.int .i64 time) (.slice dA ds.length dc) (.slice lA ls.length lc)) J.ne.2.1) (((Qac XX (w.heap.size + 1 + 1 + 1) (.slice (some ⟨br, 0, none⟩) rs.length rc) (.slice mA ms.length mc) (.slice gA gs.length gc) (.int .i64 time) (.slice dA ds.length dc) (.slice lA ls.length lc)).cell (p := ⟨(w.heap.size + 1 + 1), 3, none⟩) M0.2 (by show w.heap.size + 1 + 1 ≠ _; omega)).trans M0.1) (((Qac XX (w.heap.size + 1 + 1 + 1) (.slice (some ⟨br, 0, none⟩) rs.length rc) (.slice mA ms.length mc) (.slice gA gs.length gc) (.int .i64 time) (.slice dA ds.length dc) (.slice lA ls.length lc)).cell (p := ⟨br, n * 3, none⟩) M1.2 (by show br ≠ _; omega)).trans M1.1))
 have SN := hidP (mkS _ ((J.k.only (Qac _ (w.heap.size + 1 + 1 + 1) (.slice (some ⟨br, 0, none⟩) rs.length rc) (.slice mA ms.length mc) (.slice gA gs.length gc) (.int .i64 time) (.slice dA ds.length dc) (.slice lA ls.length lc)) J.ne.2.1).only (Qah _ (w.heap.size + 1 + 1 + 1 + 1) (.int .i64 (0)) (.int .i64 (st2)) (.string ⟨#[]⟩) (.string ⟨#[]⟩)) J.ne.2.2.1) (((Qah (putK XX (w.heap.size + 1 + 1 + 1) (.slice (some ⟨br, 0, none⟩) rs.length rc) (.slice mA ms.length mc) (.slice gA gs.length gc) (.int .i64 time) (.slice dA ds.length dc) (.slice lA ls.length lc)) (w.heap.size + 1 + 1 + 1 + 1) (.int .i64 (0)) (.int .i64 (st2)) (.string ⟨#[]⟩) (.string ⟨#[]⟩)).cell (p := ⟨(w.heap.size + 1 + 1), 3, none⟩) (Nat.lt_of_lt_of_le M0.2 (Qac XX (w.heap.size + 1 + 1 + 1) (.slice (some ⟨br, 0, none⟩) rs.length rc) (.slice mA ms.length mc) (.slice gA gs.length gc) (.int .i64 time) (.slice dA ds.length dc) (.slice lA ls.length lc)).size) (by show w.heap.size + 1 + 1 ≠ _; omega)).trans (((Qac XX (w.heap.size + 1 + 1 + 1) (.slice (some ⟨br, 0, none⟩) rs.length rc) (.slice mA ms.length mc) (.slice gA gs.length gc) (.int .i64 time) (.slice dA ds.length dc) (.slice lA ls.length lc)).cell (p := ⟨(w.heap.size + 1 + 1), 3, none⟩) M0.2 (by show w.heap.size + 1 + 1 ≠ _; omega)).trans M0.1)) (((Qah (putK XX (w.heap.size + 1 + 1 + 1) (.slice (some ⟨br, 0, none⟩) rs.length rc) (.slice mA ms.length mc) (.slice gA gs.length gc) (.int .i64 time) (.slice dA ds.length dc) (.slice lA ls.length lc)) (w.heap.size + 1 + 1 + 1 + 1) (.int .i64 (0)) (.int .i64 (st2)) (.string ⟨#[]⟩) (.string ⟨#[]⟩)).cell (p := ⟨br, n * 3, none⟩) (Nat.lt_of_lt_of_le M1.2 (Qac XX (w.heap.size + 1 + 1 + 1) (.slice (some ⟨br, 0, none⟩) rs.length rc) (.slice mA ms.length mc) (.slice gA gs.length gc) (.int .i64 time) (.slice dA ds.length dc) (.slice lA ls.length lc)).size) (by show br ≠ _; omega)).trans (((Qac XX (w.heap.size + 1 + 1 + 1) (.slice (some ⟨br, 0, none⟩) rs.length rc) (.slice mA ms.length mc) (.slice gA gs.length gc) (.int .i64 time) (.slice dA ds.length dc) (.slice lA ls.length lc)).cell (p := ⟨br, n * 3, none⟩) M1.2 (by show br ≠ _; omega)).trans M1.1)))
 clear mkS QQ
 refine ztk [0,1,2,3,4,5,6,7,8] ?_; repeat (refine ztn (hS := hH) (h := ?_); try simp only [zX,zY])
 refine zte ?_
 refine zR1 9 (fun K hK => ?_)
 simp only [zG]
 go_simp
 skip
 refine hK.out _ _ SK.out fun hH => ?_; clear hK K; try simp only [zX,zY]
 refine zR1 10 (fun K hK => ?_)
 simp only [zG]
 go_simp
 skip
 refine hK.out _ _ SN.out fun hH => ?_; clear hK K; try simp only [zX,zY]
 refine zdn ?_
 go_wp2
 exact bodyPost_ret (v := .tuple #[.agg (Qaa (some ⟨br, 0, none⟩) rs.length rc mA ms.length mc gA gs.length gc time dA ds.length dc lA ls.length lc), .agg (Qas (0) (st2) ⟨#[]⟩ ⟨#[]⟩)]) (by simp [results, Tryz.results93, go_sem, s0, s1, s2, s3, s4, s5, t0, t1, t2, t3, q0, q1, q2, q3, q4, q5]) rfl (by have h := TT.out; simp only [KC.p, List.map_set] at h; exact h)
structure Gs (S : Nat -> Prop) (w W : World) (pk pc p1 p2 : Nat) (kc cc : Array Value) : Prop where
  bx : Bx S w W pk pc p1 p2 kc cc
  bl : Below w.heap.size w W
section
variable {S : Nat -> Prop} {w W W' : World} {pk pc p1 p2 : Nat} {kc cc : Array Value}
theorem Gs.below (h : Gs S w W pk pc p1 p2 kc cc) (g : Below W.heap.size W W') : Gs S w W' pk pc p1 p2 kc cc := ⟨h.bx.below g, via0 g h.bl⟩
theorem Gs.alloc (h : Gs S w W pk pc p1 p2 kc cc) (ob : Obj) : Gs S w (W.alloc ob) pk pc p1 p2 kc cc := h.below (Qaf (Below.refl _ _) _)
theorem Gs.drew (h : Gs S w W pk pc p1 p2 kc cc) : Gs S w W.drew pk pc p1 p2 kc cc := h.below (Below.refl _ _).drew
theorem Gs.only {q : Nat} (h : Gs S w W pk pc p1 p2 kc cc) (k : Only q W W') (hq : w.heap.size < q /\ q ≠ pk /\ q ≠ pc /\ q ≠ p1 /\ q ≠ p2) : Gs S w W' pk pc p1 p2 kc cc :=
 ⟨h.bx.turn (Offp.of_only k) (fun b e => .inr (by subst e; exact ⟨by omega, hq.2.1, hq.2.2.1, hq.2.2.2.1, hq.2.2.2.2⟩)), h.bl.trans ((Off.of_only k).toBelow (by simp; omega) h.bl.size)⟩
end
abbrev putI (Y : World) (p : Nat) (v0 v1 v2 v3 v4 : Value) : World := ((((Y.setCell ⟨p, 0, none⟩ v0).setCell ⟨p, 1, none⟩ v1).setCell ⟨p, 2, none⟩ v2).setCell ⟨p, 3, none⟩ v3).setCell ⟨p, 4, none⟩ v4
theorem Qhd (Y : World) (p : Nat) (v0 v1 v2 v3 v4 : Value) : Only p Y (putI Y p v0 v1 v2 v3 v4) := (((((Only.refl p Y).set 0 v0).set 1 v1).set 2 v2).set 3 v3).set 4 v4
theorem blk_putI {Y : World} {p : Nat} {t : TypeId} {x0 x1 x2 x3 x4 : Value} (h : Blk Y p t #[x0, x1, x2, x3, x4]) (v0 v1 v2 v3 v4 : Value) : Blk (putI Y p v0 v1 v2 v3 v4) p t #[v0, v1, v2, v3, v4] := ((((h.setAt 0 v0).setAt 1 v1).setAt 2 v2).setAt 3 v3).setAt 4 v4
theorem l6Row_get (ro wi le ke : Int) (rA : Option Addr) (rc : Nat) (rs : List RC) (mA : Option Addr) (mc : Nat) (ms : List MC) (gA : Option Addr) (gc : Nat) (gs : List GC) (time : Int) (dA : Option Addr) (dc : Nat) (ds : List Int) (lA : Option Addr) (lc : Nat) (ls : List An) (who seq cb cc : Int) (n : Nat) (key text : ByteArray) (S : Nat -> Prop) (br bg bd bl : Nat) (w : World) (hS : ∀ b, S b -> b < w.heap.size) (hq : KQ w (⟨rA, rc, rs, mA, mc, ms, gA, gc, gs, time, dA, dc, ds, lA, lc, ls⟩ : KC) S br bg bd bl) (hn : n < rs.length) (hrl : rs.length <= 1000)
 (st nt : Int) (yA : Option Addr) (yc : Nat) (ym : List It) (hy : rs[n] = ⟨st, nt, yA, yc, ym⟩) (io i3 i4 how : Int) (ik ix : ByteArray)
 (hc : ∀ W : World, At W yA ym -> Calls Tryz.prog 102 #[.agg (Qaz st nt yA ym.length yc), .int .i64 cb] W fun e w' => e = .returned (.tuple #[.agg (Qba io ik ix i3 i4), .int .i64 how]) /\ Below W.heap.size W w') (hhow : how = 1 ∨ how = 2 ∨ how = 0) :
 Calls Tryz.prog 93 #[.agg (Qan ro wi le ke), .agg (Qaa rA rs.length rc mA ms.length mc gA gs.length gc time dA ds.length dc lA ls.length lc), .agg (Qad who seq 2 (n : Int) cb cc key text)] w fun e w' => Qbu S w w' e (KC.p (⟨rA, rc, rs, mA, mc, ms, gA, gc, gs, time, dA, dc, ds, lA, lc, ls⟩ : KC)) (if how = 1 then ⟨6, 0, ⟨#[]⟩, ⟨#[]⟩⟩ else if how = 2 then ⟨7, 0, ⟨#[]⟩, ⟨#[]⟩⟩ else ⟨0, io, ik, ix⟩) := by
 obtain rfl : rA = (some ⟨br, 0, none⟩) := hq.r.a
 have HQ := hidP hq
 have HC := hidP hc
 have hbr : br < w.heap.size /\ bg < w.heap.size /\ bd < w.heap.size /\ bl < w.heap.size := ⟨hq.r.lt, hq.g.lt, hq.d.lt, hq.l.lt⟩
 have HCl : Hid (∀ W : World, Below w.heap.size w W -> W.cell? ⟨br, n * 3, none⟩ = some (.int .i64 st) /\ W.cell? ⟨br, n * 3 + 1, none⟩ = some (.int .i64 nt) /\ W.cell? ⟨br, n * 3 + 2, none⟩ = some (.slice yA ym.length yc)) := fun W g => by
  have h := (hq.r.i.below hq.r.lt g).getRC n hn
  rw [hy] at h
  simpa only [Nat.zero_add] using h
 have HA : Hid (∀ W : World, Below w.heap.size w W -> At W yA ym) := fun W g => by
  have h := (hq.ri rs[n] (List.getElem_mem hn)).at.below g
  rw [hy] at h
  exact h
 obtain ⟨AA, hAA⟩ : ∃ AA : An, AA = (if how = 1 then ⟨6, 0, ⟨#[]⟩, ⟨#[]⟩⟩ else if how = 2 then ⟨7, 0, ⟨#[]⟩, ⟨#[]⟩⟩ else ⟨0, io, ik, ix⟩) := ⟨_, rfl⟩
 rw [← hAA]
 have HAA := hidP hAA
 clear hc hy hq hAA
 obtain ⟨I0, S0, B0⟩ := Qa2 ro wi le ke (some ⟨br, 0, none⟩) rc rs mA mc ms gA gc gs time dA dc ds lA lc ls who seq 2 (n : Int) cb cc key text S w hS
 have hn0 : (0 : Int) <= (n : Int) := by omega
 have hn1 : (n : Int) < (rs.length : Int) := by omega
 go_enter Tryz.func93, Tryz.ntmps93
 go_upto_region 1 with fail
 generalize ((((w.alloc (.cells (Qan ro wi le ke) 84)).alloc (.cells (Qaa (some ⟨br, 0, none⟩) rs.length rc mA ms.length mc gA gs.length gc time dA ds.length dc lA ls.length lc) 90)).alloc (.cells (Qad who seq 2 (n : Int) cb cc key text) 105)).alloc (.cells Qab 90)).alloc (.cells Qai 130) = X0 at I0 S0 B0 ⊢
 obtain ⟨c0, c1, c2, c3, c4, c5, c6, c7⟩ := I0.c.row8c
 go_upto_region 10 with fail
 clear c0 c1 c2 c3 c4 c5 c6 c7
 have P : Gs S w X0.drew (w.heap.size + 1) (w.heap.size + 1 + 1) (w.heap.size + 1 + 1 + 1) (w.heap.size + 1 + 1 + 1 + 1) (Qaa (some ⟨br, 0, none⟩) rs.length rc mA ms.length mc gA gs.length gc time dA ds.length dc lA ls.length lc) (Qad who seq 2 (n : Int) cb cc key text) := Gs.drew ⟨I0, B0⟩
 have mkS : ∀ V : World, Gs S w V (w.heap.size + 1) (w.heap.size + 1 + 1) (w.heap.size + 1 + 1 + 1) (w.heap.size + 1 + 1 + 1 + 1) (Qaa (some ⟨br, 0, none⟩) rs.length rc mA ms.length mc gA gs.length gc time dA ds.length dc lA ls.length lc) (Qad who seq 2 (n : Int) cb cc key text) -> (fun (V : World) => V.cell? ⟨(w.heap.size + 1), 0, none⟩ = some (.slice (some ⟨br, 0, none⟩) rs.length rc) /\ V.cell? ⟨(w.heap.size + 1 + 1), 3, none⟩ = some (.int .i64 (n : Int)) /\ V.cell? ⟨(w.heap.size + 1 + 1), 4, none⟩ = some (.int .i64 cb) /\ V.cell? ⟨br, n * 3, none⟩ = some (.int .i64 st) /\ V.cell? ⟨br, n * 3 + 1, none⟩ = some (.int .i64 nt) /\ V.cell? ⟨br, n * 3 + 2, none⟩ = some (.slice yA ym.length yc)) V := fun V q => by
  obtain ⟨a0, a1, a2, a3, a4, a5⟩ := q.bx.k.row6
  obtain ⟨d0, d1, d2, d3, d4, d5, d6, d7⟩ := q.bx.c.row8c
  obtain ⟨r0, r1, r2⟩ := HCl.out V q.bl
  exact ⟨a0, d3, d4, r0, r1, r2⟩
 have l0 : w.heap.size + 1 + 1 + 1 + 1 < X0.heap.size := I0.r2.lt
 clear I0 S0 B0
 go_cut [12, 13] from 53 to 64 (fun p hv wx => ∃ (PI : Nat), p = .pointer (some ⟨PI, 0, none⟩) /\ hv = .int .i64 how /\ Gs S w wx (w.heap.size + 1) (w.heap.size + 1 + 1) (w.heap.size + 1 + 1 + 1) (w.heap.size + 1 + 1 + 1 + 1) (Qaa (some ⟨br, 0, none⟩) rs.length rc mA ms.length mc gA gs.length gc time dA ds.length dc lA ls.length lc) (Qad who seq 2 (n : Int) cb cc key text) /\ Blk wx PI 121 (Qba io ik ix i3 i4) /\ (w.heap.size < PI /\ PI ≠ (w.heap.size + 1) /\ PI ≠ (w.heap.size + 1 + 1) /\ PI ≠ (w.heap.size + 1 + 1 + 1) /\ PI ≠ (w.heap.size + 1 + 1 + 1 + 1)))
 case first =>
  refine wp_region_noPanic ?_
  refine wp_region_held_drew (S := (fun (V : World) => V.cell? ⟨(w.heap.size + 1), 0, none⟩ = some (.slice (some ⟨br, 0, none⟩) rs.length rc) /\ V.cell? ⟨(w.heap.size + 1 + 1), 3, none⟩ = some (.int .i64 (n : Int)) /\ V.cell? ⟨(w.heap.size + 1 + 1), 4, none⟩ = some (.int .i64 cb) /\ V.cell? ⟨br, n * 3, none⟩ = some (.int .i64 st) /\ V.cell? ⟨br, n * 3 + 1, none⟩ = some (.int .i64 nt) /\ V.cell? ⟨br, n * 3 + 2, none⟩ = some (.slice yA ym.length yc))) (by kernel_rfl) ?_ (fun hH => ?_)
  . exact mkS _ P
  refine ztk [0,1,2,3,4,5,6,7] ?_; repeat (refine ztn (hS := hH) (h := ?_); try simp only [zX,zY])
  refine zte ?_
  refine zR2 8 12 (fun K hK => ?_) (fun K hK => ?_)
  focus
   simp only [zG]
   go_simp
   refine (HC.out _ (HA.out _ P.bl)).mono ?_; rintro e w3 ⟨rfl, g3⟩; have P := P.below g3
   refine hK.out _ _ (mkS _ P) fun hH => ?_; clear hK K; try simp only [zX,zY]
   refine ztk [9,10,11] ?_; repeat (refine ztn (hS := hH) (h := ?_); try simp only [zX,zY])
   refine zte ?_
   refine zR1 12 (fun K hK => ?_)
   simp only [zG]
   go_simp
   have RB := Blk.new w3 121 Qc1; have l3 := P.bx.r2.lt; have P := P.alloc (.cells Qc1 121); have hPR : w.heap.size < w3.heap.size /\ w3.heap.size ≠ (w.heap.size + 1) /\ w3.heap.size ≠ (w.heap.size + 1 + 1) /\ w3.heap.size ≠ (w.heap.size + 1 + 1 + 1) /\ w3.heap.size ≠ (w.heap.size + 1 + 1 + 1 + 1) := (by omega)
   refine hK.out _ _ (mkS _ P) fun hH => ?_; clear hK K; try simp only [zX,zY]
   generalize w3.alloc (.cells Qc1 121) = w4 at *
   generalize w3.heap.size = PR at *
   obtain ⟨z0, z1, z2, z3, z4⟩ := RB.row5
   have f0 := RB.thaw 0; have f1 := RB.thaw 1; have f2 := RB.thaw 2; have f3 := RB.thaw 3; have f4 := RB.thaw 4
   have P9 := P.only (Qhd w4 PR (.int .i64 io) (.string ik) (.string ix) (.int .i64 i3) (.int .i64 i4)) hPR
  rotate_left
  focus
   simp only [zG]
   go_simp
   have RB : Blk (X0.drew.alloc (.cells Qc1 121)) X0.heap.size 121 Qc1 := Blk.new X0.drew 121 Qc1; have P := P.alloc (.cells Qc1 121)
   refine hK.out _ _ (mkS _ P) fun hH => ?_; clear hK K; try simp only [zX,zY]
   refine zR1 8 (fun K hK => ?_)
   simp only [zG]
   go_simp
   refine (HC.out _ (HA.out _ P.bl)).mono ?_; rintro e w3 ⟨rfl, g3⟩; have P := P.below g3; have RB := RB.below g3 (by simp); have hPR : w.heap.size < X0.heap.size /\ X0.heap.size ≠ (w.heap.size + 1) /\ X0.heap.size ≠ (w.heap.size + 1 + 1) /\ X0.heap.size ≠ (w.heap.size + 1 + 1 + 1) /\ X0.heap.size ≠ (w.heap.size + 1 + 1 + 1 + 1) := (by omega)
   refine hK.out _ _ (mkS _ P) fun hH => ?_; clear hK K; try simp only [zX,zY]
   refine ztk [9,10,11] ?_; repeat (refine ztn (hS := hH) (h := ?_); try simp only [zX,zY])
   refine zte ?_
   obtain ⟨z0, z1, z2, z3, z4⟩ := RB.row5
   have f0 := RB.thaw 0; have f1 := RB.thaw 1; have f2 := RB.thaw 2; have f3 := RB.thaw 3; have f4 := RB.thaw 4
   have P9 := P.only (Qhd w3 X0.heap.size (.int .i64 io) (.string ik) (.string ix) (.int .i64 i3) (.int .i64 i4)) hPR
  all_goals
   have B9 := blk_putI RB (.int .i64 io) (.string ik) (.string ix) (.int .i64 i3) (.int .i64 i4)
   refine zR1 13 (fun K hK => ?_)
   simp only [zG]
   go_simp
   refine hK.out _ _ (mkS _ P9) fun hH => ?_; clear hK K; try simp only [zX,zY]
   refine zt1 14 ?_; refine ztn (hS := hH) (h := ?_); try simp only [zX,zY]
   refine zte ?_
   refine zdn ?_
   go_wp2_with fail
   go_meet
   exact ⟨_, rfl, rfl, P9, B9, hPR⟩
 case rest =>
  obtain ⟨PI, rfl, rfl, P5, B5, hPI⟩ := hcut
  clear mkS P
  have HQ5 := hidP ((HQ.out.below P5.bl).mono (S' := fun b => S b ∨ (w.heap.size <= b /\ b ≠ (w.heap.size + 1 + 1 + 1) /\ b ≠ (w.heap.size + 1 + 1 + 1 + 1))) (fun b _ hb => .inl hb))
  have I5 := P5.bx
  clear P5
  rcases hhow with rfl | rfl | rfl
  . have eA := HAA.out
    rw [if_pos rfl] at eA
    subst eA
    clear B5
    have TT := hidP (Bx.told I5 (y := (⟨(some ⟨br, 0, none⟩), rc, rs, mA, mc, ms, gA, gc, gs, time, dA, dc, ds, lA, lc, ls⟩ : KC)) (br := br) (bg := bg) (bd := bd) (bl := bl) (HQ5.out) (⟨(6), (0), (⟨#[]⟩), (⟨#[]⟩)⟩ : An) (hv := rfl))
    obtain ⟨z0, z1, z2, z3, z4, z5⟩ := I5.r1.row6
    have f0 := I5.r1.thaw 0; have f1 := I5.r1.thaw 1; have f2 := I5.r1.thaw 2; have f3 := I5.r1.thaw 3; have f4 := I5.r1.thaw 4; have f5 := I5.r1.thaw 5
    obtain ⟨k0, k1, k2, k3, k4, k5⟩ := I5.k.row6
    have R2 := I5.r2.only (Qac _ (w.heap.size + 1 + 1 + 1) (.slice (some ⟨br, 0, none⟩) rs.length rc) (.slice mA ms.length mc) (.slice gA gs.length gc) (.int .i64 time) (.slice dA ds.length dc) (.slice lA ls.length lc)) (fun e => I5.ne.2.2.2.2.2 e.symm)
    obtain ⟨y0, y1, y2, y3⟩ := R2.row4
    have ee0 := R2.thaw 0; have ee1 := R2.thaw 1; have ee2 := R2.thaw 2; have ee3 := R2.thaw 3
    have C1 := Qat I5.r1 (.slice (some ⟨br, 0, none⟩) rs.length rc) (.slice mA ms.length mc) (.slice gA gs.length gc) (.int .i64 time) (.slice dA ds.length dc) (.slice lA ls.length lc)
    have B1 := (Qax I5.r1 (.slice (some ⟨br, 0, none⟩) rs.length rc) (.slice mA ms.length mc) (.slice gA gs.length gc) (.int .i64 time) (.slice dA ds.length dc) (.slice lA ls.length lc)).only (Qah _ (w.heap.size + 1 + 1 + 1 + 1) (.int .i64 (6)) (.int .i64 (0)) (.string ⟨#[]⟩) (.string ⟨#[]⟩)) (fun e => I5.ne.2.2.2.2.2 e)
    have C2 := Qau R2 (.int .i64 (6)) (.int .i64 (0)) (.string ⟨#[]⟩) (.string ⟨#[]⟩)
    obtain ⟨s0, s1, s2, s3, s4, s5⟩ := C1
    obtain ⟨t0, t1, t2, t3⟩ := C2
    obtain ⟨q0, q1, q2, q3, q4, q5⟩ := B1.row6
    have hne12 : (w.heap.size + 1 + 1 + 1) ≠ (w.heap.size + 1 + 1 + 1 + 1) := I5.ne.2.2.2.2.2
    have hne21 : (w.heap.size + 1 + 1 + 1 + 1) ≠ (w.heap.size + 1 + 1 + 1) := fun e => I5.ne.2.2.2.2.2 e.symm
    go_wp2
    exact bodyPost_ret (v := .tuple #[.agg (Qaa (some ⟨br, 0, none⟩) rs.length rc mA ms.length mc gA gs.length gc time dA ds.length dc lA ls.length lc), .agg (Qas (6) (0) ⟨#[]⟩ ⟨#[]⟩)]) (by simp [results, Tryz.results93, go_sem, s0, s1, s2, s3, s4, s5, t0, t1, t2, t3, q0, q1, q2, q3, q4, q5]) rfl TT.out
  . have eA := HAA.out
    rw [if_neg (by decide), if_pos rfl] at eA
    subst eA
    clear B5
    have TT := hidP (Bx.told I5 (y := (⟨(some ⟨br, 0, none⟩), rc, rs, mA, mc, ms, gA, gc, gs, time, dA, dc, ds, lA, lc, ls⟩ : KC)) (br := br) (bg := bg) (bd := bd) (bl := bl) (HQ5.out) (⟨(7), (0), (⟨#[]⟩), (⟨#[]⟩)⟩ : An) (hv := rfl))
    obtain ⟨z0, z1, z2, z3, z4, z5⟩ := I5.r1.row6
    have f0 := I5.r1.thaw 0; have f1 := I5.r1.thaw 1; have f2 := I5.r1.thaw 2; have f3 := I5.r1.thaw 3; have f4 := I5.r1.thaw 4; have f5 := I5.r1.thaw 5
    obtain ⟨k0, k1, k2, k3, k4, k5⟩ := I5.k.row6
    have R2 := I5.r2.only (Qac _ (w.heap.size + 1 + 1 + 1) (.slice (some ⟨br, 0, none⟩) rs.length rc) (.slice mA ms.length mc) (.slice gA gs.length gc) (.int .i64 time) (.slice dA ds.length dc) (.slice lA ls.length lc)) (fun e => I5.ne.2.2.2.2.2 e.symm)
    obtain ⟨y0, y1, y2, y3⟩ := R2.row4
    have ee0 := R2.thaw 0; have ee1 := R2.thaw 1; have ee2 := R2.thaw 2; have ee3 := R2.thaw 3
    have C1 := Qat I5.r1 (.slice (some ⟨br, 0, none⟩) rs.length rc) (.slice mA ms.length mc) (.slice gA gs.length gc) (.int .i64 time) (.slice dA ds.length dc) (.slice lA ls.length lc)
    have B1 := (Qax I5.r1 (.slice (some ⟨br, 0, none⟩) rs.length rc) (.slice mA ms.length mc) (.slice gA gs.length gc) (.int .i64 time) (.slice dA ds.length dc) (.slice lA ls.length lc)).only (Qah _ (w.heap.size + 1 + 1 + 1 + 1) (.int .i64 (7)) (.int .i64 (0)) (.string ⟨#[]⟩) (.string ⟨#[]⟩)) (fun e => I5.ne.2.2.2.2.2 e)
    have C2 := Qau R2 (.int .i64 (7)) (.int .i64 (0)) (.string ⟨#[]⟩) (.string ⟨#[]⟩)
    obtain ⟨s0, s1, s2, s3, s4, s5⟩ := C1
    obtain ⟨t0, t1, t2, t3⟩ := C2
    obtain ⟨q0, q1, q2, q3, q4, q5⟩ := B1.row6
    have hne12 : (w.heap.size + 1 + 1 + 1) ≠ (w.heap.size + 1 + 1 + 1 + 1) := I5.ne.2.2.2.2.2
    have hne21 : (w.heap.size + 1 + 1 + 1 + 1) ≠ (w.heap.size + 1 + 1 + 1) := fun e => I5.ne.2.2.2.2.2 e.symm
    go_wp2
    exact bodyPost_ret (v := .tuple #[.agg (Qaa (some ⟨br, 0, none⟩) rs.length rc mA ms.length mc gA gs.length gc time dA ds.length dc lA ls.length lc), .agg (Qas (7) (0) ⟨#[]⟩ ⟨#[]⟩)]) (by simp [results, Tryz.results93, go_sem, s0, s1, s2, s3, s4, s5, t0, t1, t2, t3, q0, q1, q2, q3, q4, q5]) rfl TT.out
  . have eA := HAA.out
    rw [if_neg (by decide), if_neg (by decide)] at eA
    subst eA
    obtain ⟨x0, x1, x2, x3, x4⟩ := B5.row5
    have bl9 := B5.lt
    go_upto_region 16 with fail
    have mkS : ∀ V : World, Blk V (w.heap.size + 1) 90 (Qaa (some ⟨br, 0, none⟩) rs.length rc mA ms.length mc gA gs.length gc time dA ds.length dc lA ls.length lc) -> V.cell? ⟨PI, 0, none⟩ = some (.int .i64 io) -> V.cell? ⟨PI, 1, none⟩ = some (.string ik) -> V.cell? ⟨PI, 2, none⟩ = some (.string ix) -> (fun (V : World) => V.cell? ⟨(w.heap.size + 1), 0, none⟩ = some (.slice (some ⟨br, 0, none⟩) rs.length rc) /\ V.cell? ⟨(w.heap.size + 1), 1, none⟩ = some (.slice mA ms.length mc) /\ V.cell? ⟨(w.heap.size + 1), 2, none⟩ = some (.slice gA gs.length gc) /\ V.cell? ⟨(w.heap.size + 1), 3, none⟩ = some (.int .i64 time) /\ V.cell? ⟨(w.heap.size + 1), 4, none⟩ = some (.slice dA ds.length dc) /\ V.cell? ⟨(w.heap.size + 1), 5, none⟩ = some (.slice lA ls.length lc) /\ V.cell? ⟨PI, 0, none⟩ = some (.int .i64 io) /\ V.cell? ⟨PI, 1, none⟩ = some (.string ik) /\ V.cell? ⟨PI, 2, none⟩ = some (.string ix)) V := fun V hk hm0 hm1 hm2 => by obtain ⟨a0, a1, a2, a3, a4, a5⟩ := hk.row6; exact ⟨a0, a1, a2, a3, a4, a5, hm0, hm1, hm2⟩
    have SW := mkS _ I5.k.drew (x0) (x1) (x2)
    have J := I5.drew
    have QQ := hidP (HQ5.out.below (Below.refl _ _).drew)
    have M0 : wc.drew.cell? ⟨PI, 0, none⟩ = some (.int .i64 io) /\ PI < wc.drew.heap.size := ⟨x0, bl9⟩
    have M1 : wc.drew.cell? ⟨PI, 1, none⟩ = some (.string ik) /\ PI < wc.drew.heap.size := ⟨x1, bl9⟩
    have M2 : wc.drew.cell? ⟨PI, 2, none⟩ = some (.string ix) /\ PI < wc.drew.heap.size := ⟨x2, bl9⟩
    refine wp_region_noPanic ?_
    refine wp_region_held_drew (S := (fun (V : World) => V.cell? ⟨(w.heap.size + 1), 0, none⟩ = some (.slice (some ⟨br, 0, none⟩) rs.length rc) /\ V.cell? ⟨(w.heap.size + 1), 1, none⟩ = some (.slice mA ms.length mc) /\ V.cell? ⟨(w.heap.size + 1), 2, none⟩ = some (.slice gA gs.length gc) /\ V.cell? ⟨(w.heap.size + 1), 3, none⟩ = some (.int .i64 time) /\ V.cell? ⟨(w.heap.size + 1), 4, none⟩ = some (.slice dA ds.length dc) /\ V.cell? ⟨(w.heap.size + 1), 5, none⟩ = some (.slice lA ls.length lc) /\ V.cell? ⟨PI, 0, none⟩ = some (.int .i64 io) /\ V.cell? ⟨PI, 1, none⟩ = some (.string ik) /\ V.cell? ⟨PI, 2, none⟩ = some (.string ix))) (by kernel_rfl) ?_ (fun hH => ?_)
    . exact SW
    clear SW hH
    generalize wc.drew = XX at J QQ M0 M1 M2 ⊢
    have hH := mkS XX J.k M0.1 M1.1 M2.1
    have TT := hidP (Bx.told J (y := (⟨(some ⟨br, 0, none⟩), rc, rs, mA, mc, ms, gA, gc, gs, time, dA, dc, ds, lA, lc, ls⟩ : KC)) (br := br) (bg := bg) (bd := bd) (bl := bl) (QQ.out) (⟨(0), (io), (ik), (ix)⟩ : An) (hv := rfl))
    obtain ⟨z0, z1, z2, z3, z4, z5⟩ := J.r1.row6
    have f0 := J.r1.thaw 0; have f1 := J.r1.thaw 1; have f2 := J.r1.thaw 2; have f3 := J.r1.thaw 3; have f4 := J.r1.thaw 4; have f5 := J.r1.thaw 5
    obtain ⟨k0, k1, k2, k3, k4, k5⟩ := J.k.row6
    have R2 := J.r2.only (Qac _ (w.heap.size + 1 + 1 + 1) (.slice (some ⟨br, 0, none⟩) rs.length rc) (.slice mA ms.length mc) (.slice gA gs.length gc) (.int .i64 time) (.slice dA ds.length dc) (.slice lA ls.length lc)) (fun e => J.ne.2.2.2.2.2 e.symm)
    obtain ⟨y0, y1, y2, y3⟩ := R2.row4
    have ee0 := R2.thaw 0; have ee1 := R2.thaw 1; have ee2 := R2.thaw 2; have ee3 := R2.thaw 3
    have C1 := Qat J.r1 (.slice (some ⟨br, 0, none⟩) rs.length rc) (.slice mA ms.length mc) (.slice gA gs.length gc) (.int .i64 time) (.slice dA ds.length dc) (.slice lA ls.length lc)
    have B1 := (Qax J.r1 (.slice (some ⟨br, 0, none⟩) rs.length rc) (.slice mA ms.length mc) (.slice gA gs.length gc) (.int .i64 time) (.slice dA ds.length dc) (.slice lA ls.length lc)).only (Qah _ (w.heap.size + 1 + 1 + 1 + 1) (.int .i64 (0)) (.int .i64 (io)) (.string ik) (.string ix)) (fun e => J.ne.2.2.2.2.2 e)
    have C2 := Qau R2 (.int .i64 (0)) (.int .i64 (io)) (.string ik) (.string ix)
    obtain ⟨s0, s1, s2, s3, s4, s5⟩ := C1
    obtain ⟨t0, t1, t2, t3⟩ := C2
    obtain ⟨q0, q1, q2, q3, q4, q5⟩ := B1.row6
    have hne12 : (w.heap.size + 1 + 1 + 1) ≠ (w.heap.size + 1 + 1 + 1 + 1) := J.ne.2.2.2.2.2
    have hne21 : (w.heap.size + 1 + 1 + 1 + 1) ≠ (w.heap.size + 1 + 1 + 1) := fun e => J.ne.2.2.2.2.2 e.symm
    have SK := hidP (mkS _ (J.k.only (Qac _ (w.heap.size + 1 + 1 + 1) (.slice (some ⟨br, 0, none⟩) rs.length rc) (.slice mA ms.length mc) (.slice gA gs.length gc) (.int .i64 time) (.slice dA ds.length dc) (.slice lA ls.length lc)) J.ne.2.1) (((Qac XX (w.heap.size + 1 + 1 + 1) (.slice (some ⟨br, 0, none⟩) rs.length rc) (.slice mA ms.length mc) (.slice gA gs.length gc) (.int .i64 time) (.slice dA ds.length dc) (.slice lA ls.length lc)).cell (p := ⟨PI, 0, none⟩) M0.2 (by show PI ≠ _; omega)).trans M0.1) (((Qac XX (w.heap.size + 1 + 1 + 1) (.slice (some ⟨br, 0, none⟩) rs.length rc) (.slice mA ms.length mc) (.slice gA gs.length gc) (.int .i64 time) (.slice dA ds.length dc) (.slice lA ls.length lc)).cell (p := ⟨PI, 1, none⟩) M1.2 (by show PI ≠ _; omega)).trans M1.1) (((Qac XX (w.heap.size + 1 + 1 + 1) (.slice (some ⟨br, 0, none⟩) rs.length rc) (.slice mA ms.length mc) (.slice gA gs.length gc) (.int .i64 time) (.slice dA ds.length dc) (.slice lA ls.length lc)).cell (p := ⟨PI, 2, none⟩) M2.2 (by show PI ≠ _; omega)).trans M2.1))
    have SN := hidP (mkS _ ((J.k.only (Qac _ (w.heap.size + 1 + 1 + 1) (.slice (some ⟨br, 0, none⟩) rs.length rc) (.slice mA ms.length mc) (.slice gA gs.length gc) (.int .i64 time) (.slice dA ds.length dc) (.slice lA ls.length lc)) J.ne.2.1).only (Qah _ (w.heap.size + 1 + 1 + 1 + 1) (.int .i64 (0)) (.int .i64 (io)) (.string ik) (.string ix)) J.ne.2.2.1) (((Qah (putK XX (w.heap.size + 1 + 1 + 1) (.slice (some ⟨br, 0, none⟩) rs.length rc) (.slice mA ms.length mc) (.slice gA gs.length gc) (.int .i64 time) (.slice dA ds.length dc) (.slice lA ls.length lc)) (w.heap.size + 1 + 1 + 1 + 1) (.int .i64 (0)) (.int .i64 (io)) (.string ik) (.string ix)).cell (p := ⟨PI, 0, none⟩) (Nat.lt_of_lt_of_le M0.2 (Qac XX (w.heap.size + 1 + 1 + 1) (.slice (some ⟨br, 0, none⟩) rs.length rc) (.slice mA ms.length mc) (.slice gA gs.length gc) (.int .i64 time) (.slice dA ds.length dc) (.slice lA ls.length lc)).size) (by show PI ≠ _; omega)).trans (((Qac XX (w.heap.size + 1 + 1 + 1) (.slice (some ⟨br, 0, none⟩) rs.length rc) (.slice mA ms.length mc) (.slice gA gs.length gc) (.int .i64 time) (.slice dA ds.length dc) (.slice lA ls.length lc)).cell (p := ⟨PI, 0, none⟩) M0.2 (by show PI ≠ _; omega)).trans M0.1)) (((Qah (putK XX (w.heap.size + 1 + 1 + 1) (.slice (some ⟨br, 0, none⟩) rs.length rc) (.slice mA ms.length mc) (.slice gA gs.length gc) (.int .i64 time) (.slice dA ds.length dc) (.slice lA ls.length lc)) (w.heap.size + 1 + 1 + 1 + 1) (.int .i64 (0)) (.int .i64 (io)) (.string ik) (.string ix)).cell (p := ⟨PI, 1, none⟩) (Nat.lt_of_lt_of_le M1.2 (Qac XX (w.heap.size + 1 + 1 + 1) (.slice (some ⟨br, 0, none⟩) rs.length rc) (.slice mA ms.length mc) (.slice gA gs.length gc) (.int .i64 time) (.slice dA ds.length dc) (.slice lA ls.length lc)).size) (by show PI ≠ _; omega)).trans (((Qac XX (w.heap.size + 1 + 1 + 1) (.slice (some ⟨br, 0, none⟩) rs.length rc) (.slice mA ms.length mc) (.slice gA gs.length gc) (.int .i64 time) (.slice dA ds.length dc) (.slice lA ls.length lc)).cell (p := ⟨PI, 1, none⟩) M1.2 (by show PI ≠ _; omega)).trans M1.1)) (((Qah (putK XX (w.heap.size + 1 + 1 + 1) (.slice (some ⟨br, 0, none⟩) rs.length rc) (.slice mA ms.length mc) (.slice gA gs.length gc) (.int .i64 time) (.slice dA ds.length dc) (.slice lA ls.length lc)) (w.heap.size + 1 + 1 + 1 + 1) (.int .i64 (0)) (.int .i64 (io)) (.string ik) (.string ix)).cell (p := ⟨PI, 2, none⟩) (Nat.lt_of_lt_of_le M2.2 (Qac XX (w.heap.size + 1 + 1 + 1) (.slice (some ⟨br, 0, none⟩) rs.length rc) (.slice mA ms.length mc) (.slice gA gs.length gc) (.int .i64 time) (.slice dA ds.length dc) (.slice lA ls.length lc)).size) (by show PI ≠ _; omega)).trans (((Qac XX (w.heap.size + 1 + 1 + 1) (.slice (some ⟨br, 0, none⟩) rs.length rc) (.slice mA ms.length mc) (.slice gA gs.length gc) (.int .i64 time) (.slice dA ds.length dc) (.slice lA ls.length lc)).cell (p := ⟨PI, 2, none⟩) M2.2 (by show PI ≠ _; omega)).trans M2.1)))
    clear mkS QQ
    refine ztk [0,1,2,3,4,5,6,7] ?_; repeat (refine ztn (hS := hH) (h := ?_); try simp only [zX,zY])
    refine zte ?_
    refine zR1 8 (fun K hK => ?_)
    simp only [zG]
    go_simp
    skip
    refine hK.out _ _ SK.out fun hH => ?_; clear hK K; try simp only [zX,zY]
    refine zR1 9 (fun K hK => ?_)
    simp only [zG]
    go_simp
    skip
    refine hK.out _ _ SN.out fun hH => ?_; clear hK K; try simp only [zX,zY]
    refine zdn ?_
    go_wp2
    exact bodyPost_ret (v := .tuple #[.agg (Qaa (some ⟨br, 0, none⟩) rs.length rc mA ms.length mc gA gs.length gc time dA ds.length dc lA ls.length lc), .agg (Qas (0) (io) ik ix)]) (by simp [results, Tryz.results93, go_sem, s0, s1, s2, s3, s4, s5, t0, t1, t2, t3, q0, q1, q2, q3, q4, q5]) rfl TT.out
theorem Qgp (ro wi le ke : Int) (rA : Option Addr) (rc : Nat) (rs : List RC) (mA : Option Addr) (mc : Nat) (ms : List MC) (gA : Option Addr) (gc : Nat) (gs : List GC) (time : Int) (dA : Option Addr) (dc : Nat) (ds : List Int) (lA : Option Addr) (lc : Nat) (ls : List An) (who seq cb cc : Int) (n : Nat) (key text : ByteArray) (S : Nat -> Prop) (br bg bd bl : Nat) (w : World) (hS : ∀ b, S b -> b < w.heap.size) (hq : KQ w (⟨rA, rc, rs, mA, mc, ms, gA, gc, gs, time, dA, dc, ds, lA, lc, ls⟩ : KC) S br bg bd bl) (hn : n < gs.length) (hrl : gs.length <= 1000)
 (gen : Int) (a1 a2 a3 : Option Addr) (c1 c2 c3 : Nat) (m b o : List Int) (hy : gs[n] = ⟨gen, a1, c1, m, a2, c2, b, a3, c3, o⟩) (g2 : Int) (m2 b2 o2 : List Int)
 (hc : ∀ W : World, At W a1 m -> At W a2 b -> At W a3 o -> Calls Tryz.prog 98 #[.agg (Qak gen a1 m.length c1 a2 b.length c2 a3 o.length c3), .int .i64 who] W fun e w' => Qgz W w' e g2 m2 b2 o2) :
 Calls Tryz.prog 92 #[.agg (Qan ro wi le ke), .agg (Qaa rA rs.length rc mA ms.length mc gA gs.length gc time dA ds.length dc lA ls.length lc), .agg (Qad who seq 5 (n : Int) cb cc key text)] w fun e w' => Qbu S w w' e { KC.p (⟨rA, rc, rs, mA, mc, ms, gA, gc, gs, time, dA, dc, ds, lA, lc, ls⟩ : KC) with gs := (gs.map GC.p).set n ⟨g2, m2, b2, o2⟩ } ⟨0, g2, ⟨#[]⟩, ⟨#[]⟩⟩ := by
 obtain rfl : gA = (some ⟨bg, 0, none⟩) := hq.g.a
 have HQ := hidP hq
 have HC := hidP hc
 have hbr : br < w.heap.size /\ bg < w.heap.size /\ bd < w.heap.size /\ bl < w.heap.size := ⟨hq.r.lt, hq.g.lt, hq.d.lt, hq.l.lt⟩
 have HCl : Hid (∀ W : World, Below w.heap.size w W -> W.cell? ⟨bg, n * 4, none⟩ = some (.int .i64 gen) /\ W.cell? ⟨bg, n * 4 + 1, none⟩ = some (.slice a1 m.length c1) /\ W.cell? ⟨bg, n * 4 + 2, none⟩ = some (.slice a2 b.length c2) /\ W.cell? ⟨bg, n * 4 + 3, none⟩ = some (.slice a3 o.length c3)) := fun W g => by
  have h := (hq.g.i.below hq.g.lt g).getGC n hn
  rw [hy] at h
  simpa only [Nat.zero_add] using h
 have HA : Hid (∀ W : World, Below w.heap.size w W -> At W a1 m /\ At W a2 b /\ At W a3 o) := fun W g => by
  have h := hq.gi gs[n] (List.getElem_mem hn)
  rw [hy] at h
  exact ⟨h.1.at.below g, h.2.1.at.below g, h.2.2.at.below g⟩
 clear hc hy hq
 obtain ⟨I0, S0, B0⟩ := Qa2 ro wi le ke rA rc rs mA mc ms (some ⟨bg, 0, none⟩) gc gs time dA dc ds lA lc ls who seq 5 (n : Int) cb cc key text S w hS
 have hn0 : (0 : Int) <= (n : Int) := by omega
 have hn1 : (n : Int) < (gs.length : Int) := by omega
 go_enter Tryz.func92, Tryz.ntmps92
 go_upto_region 1 with fail
 generalize ((((w.alloc (.cells (Qan ro wi le ke) 84)).alloc (.cells (Qaa rA rs.length rc mA ms.length mc (some ⟨bg, 0, none⟩) gs.length gc time dA ds.length dc lA ls.length lc) 90)).alloc (.cells (Qad who seq 5 (n : Int) cb cc key text) 105)).alloc (.cells Qab 90)).alloc (.cells Qai 130) = X0 at I0 S0 B0 ⊢
 have l0 : w.heap.size + 1 + 1 + 1 + 1 < X0.heap.size := I0.r2.lt
 obtain ⟨k0, k1, k2, k3, k4, k5⟩ := I0.k.row6
 obtain ⟨d0, d1, d2, d3, d4, d5, d6, d7⟩ := I0.c.row8c
 obtain ⟨r0, r1, r2, r3⟩ := HCl.out _ B0
 go_upto_region 2 with fail
 clear k0 k1 k2 k3 k4 k5 d0 d1 d2 d3 d4 d5 d6 d7 r0 r1 r2 r3
 have I1 := I0.alloc (.cells (Qak gen a1 m.length c1 a2 b.length c2 a3 o.length c3) 128)
 have S1 := S0.alloc (.cells (Qak gen a1 m.length c1 a2 b.length c2 a3 o.length c3) 128)
 have B1 : Below w.heap.size w (X0.alloc (.cells (Qak gen a1 m.length c1 a2 b.length c2 a3 o.length c3) 128)) := Qaf B0 _
 have G1 := Blk.new X0 128 (Qak gen a1 m.length c1 a2 b.length c2 a3 o.length c3)
 have l1 : w.heap.size + 1 + 1 + 1 + 1 < (X0.alloc (.cells (Qak gen a1 m.length c1 a2 b.length c2 a3 o.length c3) 128)).heap.size := I1.r2.lt
 clear I0 S0 B0
 generalize hPG : X0.heap.size = PG at G1 l0 ⊢
 generalize (X0.alloc (.cells (Qak gen a1 m.length c1 a2 b.length c2 a3 o.length c3) 128)) = X2 at I1 S1 B1 G1 l1 ⊢
 clear hPG
 obtain ⟨c0, c1', c2', c3', c4, c5, c6, c7⟩ := I1.c.row8c
 have lpg := G1.lt
 go_upto_region 9 with fail
 clear c0 c1' c2' c3' c4 c5 c6 c7
 have mkS : ∀ V : World, Bx S w V (w.heap.size + 1) (w.heap.size + 1 + 1) (w.heap.size + 1 + 1 + 1) (w.heap.size + 1 + 1 + 1 + 1) (Qaa rA rs.length rc mA ms.length mc (some ⟨bg, 0, none⟩) gs.length gc time dA ds.length dc lA ls.length lc) (Qad who seq 5 (n : Int) cb cc key text) -> Blk V PG 128 (Qak gen a1 m.length c1 a2 b.length c2 a3 o.length c3) -> (fun (V : World) => V.cell? ⟨(w.heap.size + 1), 2, none⟩ = some (.slice (some ⟨bg, 0, none⟩) gs.length gc) /\ V.cell? ⟨(w.heap.size + 1), 3, none⟩ = some (.int .i64 time) /\ V.cell? ⟨(w.heap.size + 1 + 1), 3, none⟩ = some (.int .i64 (n : Int)) /\ V.cell? ⟨(w.heap.size + 1 + 1), 0, none⟩ = some (.int .i64 who) /\ V.cell? ⟨PG, 0, none⟩ = some (.int .i64 gen) /\ V.cell? ⟨PG, 1, none⟩ = some (.slice a1 m.length c1) /\ V.cell? ⟨PG, 2, none⟩ = some (.slice a2 b.length c2) /\ V.cell? ⟨PG, 3, none⟩ = some (.slice a3 o.length c3)) V := fun V q1 q2 => by
  obtain ⟨a0, a1, a2, a3, a4, a5⟩ := q1.k.row6
  obtain ⟨d0, d1, d2, d3, d4, d5, d6, d7⟩ := q1.c.row8c
  obtain ⟨n0, n1, n2, n3⟩ := q2.row4
  exact ⟨a2, a3, d3, d0, n0, n1, n2, n3⟩
 have J0 := I1.drew
 have T0 := G1.drew
 have D0 : Below w.heap.size w X2.drew := B1.drew
 have hH0 := mkS _ J0 T0
 have l2 : PG < X2.drew.heap.size := lpg
 clear I1 S1 G1 B1
 refine wp_region_noPanic ?_
 have hH : ((fun (V : World) => V.cell? ⟨(w.heap.size + 1), 2, none⟩ = some (.slice (some ⟨bg, 0, none⟩) gs.length gc) /\ V.cell? ⟨(w.heap.size + 1), 3, none⟩ = some (.int .i64 time) /\ V.cell? ⟨(w.heap.size + 1 + 1), 3, none⟩ = some (.int .i64 (n : Int)) /\ V.cell? ⟨(w.heap.size + 1 + 1), 0, none⟩ = some (.int .i64 who) /\ V.cell? ⟨PG, 0, none⟩ = some (.int .i64 gen) /\ V.cell? ⟨PG, 1, none⟩ = some (.slice a1 m.length c1) /\ V.cell? ⟨PG, 2, none⟩ = some (.slice a2 b.length c2) /\ V.cell? ⟨PG, 3, none⟩ = some (.slice a3 o.length c3))) _ := hH0
 refine Qbb 9 ((fun (V : World) => V.cell? ⟨(w.heap.size + 1), 2, none⟩ = some (.slice (some ⟨bg, 0, none⟩) gs.length gc) /\ V.cell? ⟨(w.heap.size + 1), 3, none⟩ = some (.int .i64 time) /\ V.cell? ⟨(w.heap.size + 1 + 1), 3, none⟩ = some (.int .i64 (n : Int)) /\ V.cell? ⟨(w.heap.size + 1 + 1), 0, none⟩ = some (.int .i64 who) /\ V.cell? ⟨PG, 0, none⟩ = some (.int .i64 gen) /\ V.cell? ⟨PG, 1, none⟩ = some (.slice a1 m.length c1) /\ V.cell? ⟨PG, 2, none⟩ = some (.slice a2 b.length c2) /\ V.cell? ⟨PG, 3, none⟩ = some (.slice a3 o.length c3))) (by kernel_rfl) ?_
 refine zpk [0,1,2,3,4,5,6] ?_; repeat (refine zpn (h := ?_); try simp only [zX,zY])
 refine zpe ?_
 refine Qar (i := 7) (by kernel_rfl) rfl (fun K hK => ?_)
 simp only [zG]
 go_simp; refine (HC.out _ (HA.out _ D0).1 (HA.out _ D0).2.1 (HA.out _ D0).2.2).mono ?_; rintro e w3 ⟨e1, e2, e3, f1, f2, f3, Ff, rfl, g3, hG, hFf⟩; have I3 := J0.below g3; have T3 := T0.below g3 T0.lt; have D3 : Below w.heap.size w w3 := via0 g3 D0; have hH3 := mkS _ I3 T3; obtain ⟨r0, r1, r2, r3⟩ := HCl.out _ D3; have hth := (HQ.out.below D3).g.th; have fz : ∀ j, j < 4 -> w3.frozen? ⟨bg, n * 4 + j, none⟩ = false := (fun j hj => by have h9 := (hth (n * 4 + j) (by show n * 4 + j < gs.length * 4; omega)).2; rwa [Nat.zero_add] at h9); have z0 : w3.frozen? ⟨bg, n * 4, none⟩ = false := fz 0 (by omega); have z1 := fz 1 (by omega); have z2 := fz 2 (by omega); have z3 := fz 3 (by omega); have hk6 : Only bg w3 ((((w3.setCell ⟨bg, n * 4, none⟩ (.int .i64 g2)).setCell ⟨bg, n * 4 + 1, none⟩ (.slice e1 m2.length f1)).setCell ⟨bg, n * 4 + 2, none⟩ (.slice e2 b2.length f2)).setCell ⟨bg, n * 4 + 3, none⟩ (.slice e3 o2.length f3)) := ((((Only.refl bg w3).set _ _).set _ _).set _ _).set _ _; have Q6 : Hid (KQ ((((w3.setCell ⟨bg, n * 4, none⟩ (.int .i64 g2)).setCell ⟨bg, n * 4 + 1, none⟩ (.slice e1 m2.length f1)).setCell ⟨bg, n * 4 + 2, none⟩ (.slice e2 b2.length f2)).setCell ⟨bg, n * 4 + 3, none⟩ (.slice e3 o2.length f3)) { (⟨rA, rc, rs, mA, mc, ms, (some ⟨bg, 0, none⟩), gc, gs, time, dA, dc, ds, lA, lc, ls⟩ : KC) with gs := gs.set n ⟨g2, e1, f1, m2, e2, f2, b2, e3, f3, o2⟩ } (fun b => S b ∨ (w.heap.size <= b /\ b ≠ (w.heap.size + 1 + 1 + 1) /\ b ≠ (w.heap.size + 1 + 1 + 1 + 1))) br bg bd bl) := (((HQ.out.below D3).mono (S' := fun b => S b ∨ (w.heap.size <= b /\ b ≠ (w.heap.size + 1 + 1 + 1) /\ b ≠ (w.heap.size + 1 + 1 + 1 + 1))) (fun b _ hb => .inl hb)).setG n hn ⟨g2, e1, f1, m2, e2, f2, b2, e3, f3, o2⟩ (gp_av hG (fun x hx => (by have h9 := hFf x hx; exact ⟨.inr (by omega), by omega, by omega, by omega, by omega⟩)))); have I6 := I3.turn (Offp.of_only hk6) (fun b e => .inl (by subst e; exact HQ.out.s.2.1)); have C6 : (((((w3.setCell ⟨bg, n * 4, none⟩ (.int .i64 g2)).setCell ⟨bg, n * 4 + 1, none⟩ (.slice e1 m2.length f1)).setCell ⟨bg, n * 4 + 2, none⟩ (.slice e2 b2.length f2)).setCell ⟨bg, n * 4 + 3, none⟩ (.slice e3 o2.length f3))).cell? ⟨bg, n * 4, none⟩ = some (.int .i64 g2) := (by have h := Q6.out.g.i.getGC n (by simpa using hn); simp only [List.getElem_set_self, Nat.zero_add] at h; exact h.1); clear hth fz hk6 g3 hG hFf I3 T3 D3
 refine hK.out _ _ (.inr hH3) ?_
 clear hK K
 try simp only [zX,zY]
 refine zp1 8 ?_; refine zpn (h := ?_); try simp only [zX,zY]
 refine zpe ?_
 refine Qar (i := 9) (by kernel_rfl) rfl (fun K hK => ?_)
 simp only [zG]
 go_simp
 refine hK.out _ _ (.inl rfl) ?_
 clear hK K
 try simp only [zX,zY]
 refine Qbn (by kernel_rfl) ?_ _
 refine NoPanic.normal ?_
 clear hH0 mkS
 clear J0 T0 D0 r0 r1 r2 r3 z0 z1 z2 z3
 generalize ((((w3.setCell ⟨bg, n * 4, none⟩ (.int .i64 g2)).setCell ⟨bg, n * 4 + 1, none⟩ (.slice e1 m2.length f1)).setCell ⟨bg, n * 4 + 2, none⟩ (.slice e2 b2.length f2)).setCell ⟨bg, n * 4 + 3, none⟩ (.slice e3 o2.length f3)) = X6 at Q6 I6 C6 ⊢
 go_upto_region 16 with fail
 obtain ⟨k0', k1', k2', k3', k4', k5', k6', k7'⟩ := I6.c.row8c
 have cl := I6.c.lt
 have bl9 := Q6.out.g.lt
 have mkS : ∀ V : World, Blk V (w.heap.size + 1) 90 (Qaa rA rs.length rc mA ms.length mc (some ⟨bg, 0, none⟩) gs.length gc time dA ds.length dc lA ls.length lc) -> V.cell? ⟨(w.heap.size + 1 + 1), 3, none⟩ = some (.int .i64 (n : Int)) -> V.cell? ⟨bg, n * 4, none⟩ = some (.int .i64 g2) -> (fun (V : World) => V.cell? ⟨(w.heap.size + 1), 0, none⟩ = some (.slice rA rs.length rc) /\ V.cell? ⟨(w.heap.size + 1), 1, none⟩ = some (.slice mA ms.length mc) /\ V.cell? ⟨(w.heap.size + 1), 2, none⟩ = some (.slice (some ⟨bg, 0, none⟩) gs.length gc) /\ V.cell? ⟨(w.heap.size + 1), 3, none⟩ = some (.int .i64 time) /\ V.cell? ⟨(w.heap.size + 1), 4, none⟩ = some (.slice dA ds.length dc) /\ V.cell? ⟨(w.heap.size + 1), 5, none⟩ = some (.slice lA ls.length lc) /\ V.cell? ⟨(w.heap.size + 1 + 1), 3, none⟩ = some (.int .i64 (n : Int)) /\ V.cell? ⟨bg, n * 4, none⟩ = some (.int .i64 g2)) V := fun V hk hm0 hm1 => by obtain ⟨a0, a1, a2, a3, a4, a5⟩ := hk.row6; exact ⟨a0, a1, a2, a3, a4, a5, hm0, hm1⟩
 have SW := mkS _ I6.k.drew (k3') (C6)
 have J := I6.drew
 have QQ := hidP (Q6.out.below (Below.refl _ _).drew)
 have M0 : X6.drew.cell? ⟨(w.heap.size + 1 + 1), 3, none⟩ = some (.int .i64 (n : Int)) /\ (w.heap.size + 1 + 1) < X6.drew.heap.size := ⟨k3', cl⟩
 have M1 : X6.drew.cell? ⟨bg, n * 4, none⟩ = some (.int .i64 g2) /\ bg < X6.drew.heap.size := ⟨C6, bl9⟩
 refine wp_region_noPanic ?_
 refine wp_region_held_drew (S := (fun (V : World) => V.cell? ⟨(w.heap.size + 1), 0, none⟩ = some (.slice rA rs.length rc) /\ V.cell? ⟨(w.heap.size + 1), 1, none⟩ = some (.slice mA ms.length mc) /\ V.cell? ⟨(w.heap.size + 1), 2, none⟩ = some (.slice (some ⟨bg, 0, none⟩) gs.length gc) /\ V.cell? ⟨(w.heap.size + 1), 3, none⟩ = some (.int .i64 time) /\ V.cell? ⟨(w.heap.size + 1), 4, none⟩ = some (.slice dA ds.length dc) /\ V.cell? ⟨(w.heap.size + 1), 5, none⟩ = some (.slice lA ls.length lc) /\ V.cell? ⟨(w.heap.size + 1 + 1), 3, none⟩ = some (.int .i64 (n : Int)) /\ V.cell? ⟨bg, n * 4, none⟩ = some (.int .i64 g2))) (by kernel_rfl) ?_ (fun hH => ?_)
 . exact SW
 clear SW hH
 generalize X6.drew = XX at J QQ M0 M1 ⊢
 have hH := mkS XX J.k M0.1 M1.1
 have TT := hidP (Bx.told J (y := ({ (⟨rA, rc, rs, mA, mc, ms, (some ⟨bg, 0, none⟩), gc, gs, time, dA, dc, ds, lA, lc, ls⟩ : KC) with gs := gs.set n ⟨g2, e1, f1, m2, e2, f2, b2, e3, f3, o2⟩ } : KC)) (br := br) (bg := bg) (bd := bd) (bl := bl) (QQ.out) (⟨(0), (g2), (⟨#[]⟩), (⟨#[]⟩)⟩ : An) (hv := show _ = (Qaa rA rs.length rc mA ms.length mc (some ⟨bg, 0, none⟩) gs.length gc time dA ds.length dc lA ls.length lc) by simp only [KC.cells, List.length_set]))
 obtain ⟨z0, z1, z2, z3, z4, z5⟩ := J.r1.row6
 have f0 := J.r1.thaw 0; have f1 := J.r1.thaw 1; have f2 := J.r1.thaw 2; have f3 := J.r1.thaw 3; have f4 := J.r1.thaw 4; have f5 := J.r1.thaw 5
 obtain ⟨k0, k1, k2, k3, k4, k5⟩ := J.k.row6
 have R2 := J.r2.only (Qac _ (w.heap.size + 1 + 1 + 1) (.slice rA rs.length rc) (.slice mA ms.length mc) (.slice (some ⟨bg, 0, none⟩) gs.length gc) (.int .i64 time) (.slice dA ds.length dc) (.slice lA ls.length lc)) (fun e => J.ne.2.2.2.2.2 e.symm)
 obtain ⟨y0, y1, y2, y3⟩ := R2.row4
 have ee0 := R2.thaw 0; have ee1 := R2.thaw 1; have ee2 := R2.thaw 2; have ee3 := R2.thaw 3
 have C1 := Qat J.r1 (.slice rA rs.length rc) (.slice mA ms.length mc) (.slice (some ⟨bg, 0, none⟩) gs.length gc) (.int .i64 time) (.slice dA ds.length dc) (.slice lA ls.length lc)
 have B1 := (Qax J.r1 (.slice rA rs.length rc) (.slice mA ms.length mc) (.slice (some ⟨bg, 0, none⟩) gs.length gc) (.int .i64 time) (.slice dA ds.length dc) (.slice lA ls.length lc)).only (Qah _ (w.heap.size + 1 + 1 + 1 + 1) (.int .i64 (0)) (.int .i64 (g2)) (.string ⟨#[]⟩) (.string ⟨#[]⟩)) (fun e => J.ne.2.2.2.2.2 e)
 have C2 := Qau R2 (.int .i64 (0)) (.int .i64 (g2)) (.string ⟨#[]⟩) (.string ⟨#[]⟩)
 obtain ⟨s0, s1, s2, s3, s4, s5⟩ := C1
 obtain ⟨t0, t1, t2, t3⟩ := C2
 obtain ⟨q0, q1, q2, q3, q4, q5⟩ := B1.row6
 have hne12 : (w.heap.size + 1 + 1 + 1) ≠ (w.heap.size + 1 + 1 + 1 + 1) := J.ne.2.2.2.2.2
 have hne21 : (w.heap.size + 1 + 1 + 1 + 1) ≠ (w.heap.size + 1 + 1 + 1) := fun e => J.ne.2.2.2.2.2 e.symm
 have SK := hidP (mkS _ (J.k.only (Qac _ (w.heap.size + 1 + 1 + 1) (.slice rA rs.length rc) (.slice mA ms.length mc) (.slice (some ⟨bg, 0, none⟩) gs.length gc) (.int .i64 time) (.slice dA ds.length dc) (.slice lA ls.length lc)) J.ne.2.1) (((Qac XX (w.heap.size + 1 + 1 + 1) (.slice rA rs.length rc) (.slice mA ms.length mc) (.slice (some ⟨bg, 0, none⟩) gs.length gc) (.int .i64 time) (.slice dA ds.length dc) (.slice lA ls.length lc)).cell (p := ⟨(w.heap.size + 1 + 1), 3, none⟩) M0.2 (by show w.heap.size + 1 + 1 ≠ _; omega)).trans M0.1) (((Qac XX (w.heap.size + 1 + 1 + 1) (.slice rA rs.length rc) (.slice mA ms.length mc) (.slice (some ⟨bg, 0, none⟩) gs.length gc) (.int .i64 time) (.slice dA ds.length dc) (.slice lA ls.length lc)).cell (p := ⟨bg, n * 4, none⟩) M1.2 (by show bg ≠ _; omega)).trans M1.1))
 have SN := hidP (mkS _ ((J.k.only (Qac _ (w.heap.size + 1 + 1 + 1) (.slice rA rs.length rc) (.slice mA ms.length mc) (.slice (some ⟨bg, 0, none⟩) gs.length gc) (.int .i64 time) (.slice dA ds.length dc) (.slice lA ls.length lc)) J.ne.2.1).only (Qah _ (w.heap.size + 1 + 1 + 1 + 1) (.int .i64 (0)) (.int .i64 (g2)) (.string ⟨#[]⟩) (.string ⟨#[]⟩)) J.ne.2.2.1) (((Qah (putK XX (w.heap.size + 1 + 1 + 1) (.slice rA rs.length rc) (.slice mA ms.length mc) (.slice (some ⟨bg, 0, none⟩) gs.length gc) (.int .i64 time) (.slice dA ds.length dc) (.slice lA ls.length lc)) (w.heap.size + 1 + 1 + 1 + 1) (.int .i64 (0)) (.int .i64 (g2)) (.string ⟨#[]⟩) (.string ⟨#[]⟩)).cell (p := ⟨(w.heap.size + 1 + 1), 3, none⟩) (Nat.lt_of_lt_of_le M0.2 (Qac XX (w.heap.size + 1 + 1 + 1) (.slice rA rs.length rc) (.slice mA ms.length mc) (.slice (some ⟨bg, 0, none⟩) gs.length gc) (.int .i64 time) (.slice dA ds.length dc) (.slice lA ls.length lc)).size) (by show w.heap.size + 1 + 1 ≠ _; omega)).trans (((Qac XX (w.heap.size + 1 + 1 + 1) (.slice rA rs.length rc) (.slice mA ms.length mc) (.slice (some ⟨bg, 0, none⟩) gs.length gc) (.int .i64 time) (.slice dA ds.length dc) (.slice lA ls.length lc)).cell (p := ⟨(w.heap.size + 1 + 1), 3, none⟩) M0.2 (by show w.heap.size + 1 + 1 ≠ _; omega)).trans M0.1)) (((Qah (putK XX (w.heap.size + 1 + 1 + 1) (.slice rA rs.length rc) (.slice mA ms.length mc) (.slice (some ⟨bg, 0, none⟩) gs.length gc) (.int .i64 time) (.slice dA ds.length dc) (.slice lA ls.length lc)) (w.heap.size + 1 + 1 + 1 + 1) (.int .i64 (0)) (.int .i64 (g2)) (.string ⟨#[]⟩) (.string ⟨#[]⟩)).cell (p := ⟨bg, n * 4, none⟩) (Nat.lt_of_lt_of_le M1.2 (Qac XX (w.heap.size + 1 + 1 + 1) (.slice rA rs.length rc) (.slice mA ms.length mc) (.slice (some ⟨bg, 0, none⟩) gs.length gc) (.int .i64 time) (.slice dA ds.length dc) (.slice lA ls.length lc)).size) (by show bg ≠ _; omega)).trans (((Qac XX (w.heap.size + 1 + 1 + 1) (.slice rA rs.length rc) (.slice mA ms.length mc) (.slice (some ⟨bg, 0, none⟩) gs.length gc) (.int .i64 time) (.slice dA ds.length dc) (.slice lA ls.length lc)).cell (p := ⟨bg, n * 4, none⟩) M1.2 (by show bg ≠ _; omega)).trans M1.1)))
 clear mkS QQ
 refine ztk [0,1,2,3,4,5,6,7,8] ?_; repeat (refine ztn (hS := hH) (h := ?_); try simp only [zX,zY])
 refine zte ?_
 refine zR1 9 (fun K hK => ?_)
 simp only [zG]
 go_simp
 skip
 refine hK.out _ _ SK.out fun hH => ?_; clear hK K; try simp only [zX,zY]
 refine zR1 10 (fun K hK => ?_)
 simp only [zG]
 go_simp
 skip
 refine hK.out _ _ SN.out fun hH => ?_; clear hK K; try simp only [zX,zY]
 refine zdn ?_
 go_wp2
 exact bodyPost_ret (v := .tuple #[.agg (Qaa rA rs.length rc mA ms.length mc (some ⟨bg, 0, none⟩) gs.length gc time dA ds.length dc lA ls.length lc), .agg (Qas (0) (g2) ⟨#[]⟩ ⟨#[]⟩)]) (by simp [results, Tryz.results92, go_sem, s0, s1, s2, s3, s4, s5, t0, t1, t2, t3, q0, q1, q2, q3, q4, q5]) rfl (by have h := TT.out; simp only [KC.p, List.map_set] at h; exact h)
theorem Qhn (ro wi le ke : Int) (rA : Option Addr) (rc : Nat) (rs : List RC) (mA : Option Addr) (mc : Nat) (ms : List MC) (gA : Option Addr) (gc : Nat) (gs : List GC) (time : Int) (dA : Option Addr) (dc : Nat) (ds : List Int) (lA : Option Addr) (lc : Nat) (ls : List An) (who seq cb cc : Int) (n : Nat) (key text : ByteArray) (S : Nat -> Prop) (br bg bd bl : Nat) (w : World) (hS : ∀ b, S b -> b < w.heap.size) (hq : KQ w (⟨rA, rc, rs, mA, mc, ms, gA, gc, gs, time, dA, dc, ds, lA, lc, ls⟩ : KC) S br bg bd bl) (hn : n < gs.length) (hrl : gs.length <= 1000)
 (gen : Int) (a1 a2 a3 : Option Addr) (c1 c2 c3 : Nat) (m b o : List Int) (hy : gs[n] = ⟨gen, a1, c1, m, a2, c2, b, a3, c3, o⟩) (ok : Bool) (g2 : Int) (m2 b2 o2 : List Int)
 (hc : ∀ W : World, At W a1 m -> At W a2 b -> At W a3 o -> Calls Tryz.prog 99 #[.agg (Qak gen a1 m.length c1 a2 b.length c2 a3 o.length c3), .int .i64 who, .int .i64 gen, .int .i64 cb, .int .i64 cc] W fun e w' => ∃ v, e = .returned (.tuple #[v, .bool ok]) /\ Qgz W w' (.returned v) g2 m2 b2 o2) :
 Calls Tryz.prog 92 #[.agg (Qan ro wi le ke), .agg (Qaa rA rs.length rc mA ms.length mc gA gs.length gc time dA ds.length dc lA ls.length lc), .agg (Qad who seq 6 (n : Int) cb cc key text)] w fun e w' => Qbu S w w' e (if ok then { KC.p (⟨rA, rc, rs, mA, mc, ms, gA, gc, gs, time, dA, dc, ds, lA, lc, ls⟩ : KC) with gs := (gs.map GC.p).set n ⟨g2, m2, b2, o2⟩ } else KC.p (⟨rA, rc, rs, mA, mc, ms, gA, gc, gs, time, dA, dc, ds, lA, lc, ls⟩ : KC)) (if ok then ⟨0, cc, ⟨#[]⟩, ⟨#[]⟩⟩ else ⟨9, 0, ⟨#[]⟩, ⟨#[]⟩⟩) := by
 obtain rfl : gA = (some ⟨bg, 0, none⟩) := hq.g.a
 have HQ := hidP hq
 have HC := hidP hc
 obtain ⟨AA, hAA⟩ : ∃ AA : An, AA = (if ok then ⟨0, cc, ⟨#[]⟩, ⟨#[]⟩⟩ else ⟨9, 0, ⟨#[]⟩, ⟨#[]⟩⟩) := ⟨_, rfl⟩
 obtain ⟨PP, hPP⟩ : ∃ PP : PK, PP = (if ok then { KC.p (⟨rA, rc, rs, mA, mc, ms, (some ⟨bg, 0, none⟩), gc, gs, time, dA, dc, ds, lA, lc, ls⟩ : KC) with gs := (gs.map GC.p).set n ⟨g2, m2, b2, o2⟩ } else KC.p (⟨rA, rc, rs, mA, mc, ms, (some ⟨bg, 0, none⟩), gc, gs, time, dA, dc, ds, lA, lc, ls⟩ : KC)) := ⟨_, rfl⟩
 rw [← hAA, ← hPP]
 have HAA := hidP (And.intro hAA hPP)
 have hbr : br < w.heap.size /\ bg < w.heap.size /\ bd < w.heap.size /\ bl < w.heap.size := ⟨hq.r.lt, hq.g.lt, hq.d.lt, hq.l.lt⟩
 have HCl : Hid (∀ W : World, Below w.heap.size w W -> W.cell? ⟨bg, n * 4, none⟩ = some (.int .i64 gen) /\ W.cell? ⟨bg, n * 4 + 1, none⟩ = some (.slice a1 m.length c1) /\ W.cell? ⟨bg, n * 4 + 2, none⟩ = some (.slice a2 b.length c2) /\ W.cell? ⟨bg, n * 4 + 3, none⟩ = some (.slice a3 o.length c3)) := fun W g => by
  have h := (hq.g.i.below hq.g.lt g).getGC n hn
  rw [hy] at h
  simpa only [Nat.zero_add] using h
 have HA : Hid (∀ W : World, Below w.heap.size w W -> At W a1 m /\ At W a2 b /\ At W a3 o) := fun W g => by
  have h := hq.gi gs[n] (List.getElem_mem hn)
  rw [hy] at h
  exact ⟨h.1.at.below g, h.2.1.at.below g, h.2.2.at.below g⟩
 clear hc hAA hPP hy hq
 obtain ⟨I0, S0, B0⟩ := Qa2 ro wi le ke rA rc rs mA mc ms (some ⟨bg, 0, none⟩) gc gs time dA dc ds lA lc ls who seq 6 (n : Int) cb cc key text S w hS
 have hn0 : (0 : Int) <= (n : Int) := by omega
 have hn1 : (n : Int) < (gs.length : Int) := by omega
 go_enter Tryz.func92, Tryz.ntmps92
 go_upto_region 1 with fail
 generalize ((((w.alloc (.cells (Qan ro wi le ke) 84)).alloc (.cells (Qaa rA rs.length rc mA ms.length mc (some ⟨bg, 0, none⟩) gs.length gc time dA ds.length dc lA ls.length lc) 90)).alloc (.cells (Qad who seq 6 (n : Int) cb cc key text) 105)).alloc (.cells Qab 90)).alloc (.cells Qai 130) = X0 at I0 S0 B0 ⊢
 have l0 : w.heap.size + 1 + 1 + 1 + 1 < X0.heap.size := I0.r2.lt
 obtain ⟨k0, k1, k2, k3, k4, k5⟩ := I0.k.row6
 obtain ⟨d0, d1, d2, d3, d4, d5, d6, d7⟩ := I0.c.row8c
 obtain ⟨r0, r1, r2, r3⟩ := HCl.out _ B0
 go_upto_region 2 with fail
 clear k0 k1 k2 k3 k4 k5 d0 d1 d2 d3 d4 d5 d6 d7 r0 r1 r2 r3
 have I1 := I0.alloc (.cells (Qak gen a1 m.length c1 a2 b.length c2 a3 o.length c3) 128)
 have S1 := S0.alloc (.cells (Qak gen a1 m.length c1 a2 b.length c2 a3 o.length c3) 128)
 have B1 : Below w.heap.size w (X0.alloc (.cells (Qak gen a1 m.length c1 a2 b.length c2 a3 o.length c3) 128)) := Qaf B0 _
 have G1 := Blk.new X0 128 (Qak gen a1 m.length c1 a2 b.length c2 a3 o.length c3)
 have l1 : w.heap.size + 1 + 1 + 1 + 1 < (X0.alloc (.cells (Qak gen a1 m.length c1 a2 b.length c2 a3 o.length c3) 128)).heap.size := I1.r2.lt
 clear I0 S0 B0
 generalize hPG : X0.heap.size = PG at G1 l0 ⊢
 generalize (X0.alloc (.cells (Qak gen a1 m.length c1 a2 b.length c2 a3 o.length c3) 128)) = X2 at I1 S1 B1 G1 l1 ⊢
 clear hPG
 obtain ⟨c0, c1', c2', c3', c4, c5, c6, c7⟩ := I1.c.row8c
 have lpg := G1.lt
 obtain ⟨n0, n1, n2, n3⟩ := G1.row4
 go_upto_region 11 with fail
 go_wp2_with fail
 refine (HC.out _ (HA.out _ B1).1 (HA.out _ B1).2.1 (HA.out _ B1).2.2).mono ?_
 rintro e w3 ⟨v, rfl, e1, e2, e3, f1, f2, f3, Ff, he, g3, hG, hFf⟩
 cases he
 clear n0 n1 n2 n3 c0 c1' c2' c3' c4 c5 c6 c7
 have I3 := (I1.below g3).alloc (.cells (Qak g2 e1 m2.length f1 e2 b2.length f2 e3 o2.length f3) 128)
 have G3 := Blk.new w3 128 (Qak g2 e1 m2.length f1 e2 b2.length f2 e3 o2.length f3)
 have D3 : Below w.heap.size w (w3.alloc (.cells (Qak g2 e1 m2.length f1 e2 b2.length f2 e3 o2.length f3) 128)) := Qaf (via0 g3 B1) _
 have hG3 := hG.alloc (.cells (Qak g2 e1 m2.length f1 e2 b2.length f2 e3 o2.length f3) 128)
 have l3 : w.heap.size + 1 + 1 + 1 + 1 < w3.heap.size := Nat.lt_of_lt_of_le l1 g3.size
 clear I1 S1 G1 B1 hG HC g3
 cases ok
 . obtain ⟨eA, eP⟩ := HAA.out
   simp only [Bool.false_eq_true, if_false] at eA eP
   subst eA
   subst eP
   go_upto_region 13 with fail
   generalize w3.alloc (.cells (Qak g2 e1 m2.length f1 e2 b2.length f2 e3 o2.length f3) 128) = X3 at I3 D3 G3 hG3 ⊢
   have Q3 := hidP ((HQ.out.below D3).mono (S' := fun b => S b ∨ (w.heap.size <= b /\ b ≠ (w.heap.size + 1 + 1 + 1) /\ b ≠ (w.heap.size + 1 + 1 + 1 + 1))) (fun b _ hb => .inl hb))
   clear G3 hG3 D3
   have TT := hidP (Bx.told I3 (y := (⟨rA, rc, rs, mA, mc, ms, (some ⟨bg, 0, none⟩), gc, gs, time, dA, dc, ds, lA, lc, ls⟩ : KC)) (br := br) (bg := bg) (bd := bd) (bl := bl) (Q3.out) (⟨(9), (0), (⟨#[]⟩), (⟨#[]⟩)⟩ : An) (hv := rfl))
   obtain ⟨z0, z1, z2, z3, z4, z5⟩ := I3.r1.row6
   have f0 := I3.r1.thaw 0; have f1 := I3.r1.thaw 1; have f2 := I3.r1.thaw 2; have f3 := I3.r1.thaw 3; have f4 := I3.r1.thaw 4; have f5 := I3.r1.thaw 5
   obtain ⟨k0, k1, k2, k3, k4, k5⟩ := I3.k.row6
   have R2 := I3.r2.only (Qac _ (w.heap.size + 1 + 1 + 1) (.slice rA rs.length rc) (.slice mA ms.length mc) (.slice (some ⟨bg, 0, none⟩) gs.length gc) (.int .i64 time) (.slice dA ds.length dc) (.slice lA ls.length lc)) (fun e => I3.ne.2.2.2.2.2 e.symm)
   obtain ⟨y0, y1, y2, y3⟩ := R2.row4
   have ee0 := R2.thaw 0; have ee1 := R2.thaw 1; have ee2 := R2.thaw 2; have ee3 := R2.thaw 3
   have C1 := Qat I3.r1 (.slice rA rs.length rc) (.slice mA ms.length mc) (.slice (some ⟨bg, 0, none⟩) gs.length gc) (.int .i64 time) (.slice dA ds.length dc) (.slice lA ls.length lc)
   have B1 := (Qax I3.r1 (.slice rA rs.length rc) (.slice mA ms.length mc) (.slice (some ⟨bg, 0, none⟩) gs.length gc) (.int .i64 time) (.slice dA ds.length dc) (.slice lA ls.length lc)).only (Qah _ (w.heap.size + 1 + 1 + 1 + 1) (.int .i64 (9)) (.int .i64 (0)) (.string ⟨#[]⟩) (.string ⟨#[]⟩)) (fun e => I3.ne.2.2.2.2.2 e)
   have C2 := Qau R2 (.int .i64 (9)) (.int .i64 (0)) (.string ⟨#[]⟩) (.string ⟨#[]⟩)
   obtain ⟨s0, s1, s2, s3, s4, s5⟩ := C1
   obtain ⟨t0, t1, t2, t3⟩ := C2
   obtain ⟨q0, q1, q2, q3, q4, q5⟩ := B1.row6
   have hne12 : (w.heap.size + 1 + 1 + 1) ≠ (w.heap.size + 1 + 1 + 1 + 1) := I3.ne.2.2.2.2.2
   have hne21 : (w.heap.size + 1 + 1 + 1 + 1) ≠ (w.heap.size + 1 + 1 + 1) := fun e => I3.ne.2.2.2.2.2 e.symm
   go_wp2
   exact bodyPost_ret (v := .tuple #[.agg (Qaa rA rs.length rc mA ms.length mc (some ⟨bg, 0, none⟩) gs.length gc time dA ds.length dc lA ls.length lc), .agg (Qas (9) (0) ⟨#[]⟩ ⟨#[]⟩)]) (by simp [results, Tryz.results92, go_sem, s0, s1, s2, s3, s4, s5, t0, t1, t2, t3, q0, q1, q2, q3, q4, q5]) rfl TT.out
 . obtain ⟨eA, eP⟩ := HAA.out
   simp only [if_true] at eA eP
   subst eA
   subst eP
   go_upto_region 14 with fail
   generalize hX3 : w3.alloc (.cells (Qak g2 e1 m2.length f1 e2 b2.length f2 e3 o2.length f3) 128) = X3 at I3 D3 G3 hG3 ⊢
   generalize hP3 : w3.heap.size = PP at G3 l3 ⊢
   clear hX3 hP3
   clear w3
   generalize X3 = w3 at I3 D3 G3 hG3 ⊢
   obtain ⟨r0, r1, r2, r3⟩ := HCl.out _ D3; have hth := (HQ.out.below D3).g.th; have fz : ∀ j, j < 4 -> w3.frozen? ⟨bg, n * 4 + j, none⟩ = false := (fun j hj => by have h9 := (hth (n * 4 + j) (by show n * 4 + j < gs.length * 4; omega)).2; rwa [Nat.zero_add] at h9); have z0 : w3.frozen? ⟨bg, n * 4, none⟩ = false := fz 0 (by omega); have z1 := fz 1 (by omega); have z2 := fz 2 (by omega); have z3 := fz 3 (by omega)
   obtain ⟨k0, k1, k2, k3, k4, k5⟩ := I3.k.row6
   obtain ⟨d0, d1, d2, d3, d4, d5, d6, d7⟩ := I3.c.row8c
   obtain ⟨n0, n1, n2, n3⟩ := G3.row4
   have hG := hG3
   have hk6 : Only bg w3 ((((w3.setCell ⟨bg, n * 4, none⟩ (.int .i64 g2)).setCell ⟨bg, n * 4 + 1, none⟩ (.slice e1 m2.length f1)).setCell ⟨bg, n * 4 + 2, none⟩ (.slice e2 b2.length f2)).setCell ⟨bg, n * 4 + 3, none⟩ (.slice e3 o2.length f3)) := ((((Only.refl bg w3).set _ _).set _ _).set _ _).set _ _; have Q6 : Hid (KQ ((((w3.setCell ⟨bg, n * 4, none⟩ (.int .i64 g2)).setCell ⟨bg, n * 4 + 1, none⟩ (.slice e1 m2.length f1)).setCell ⟨bg, n * 4 + 2, none⟩ (.slice e2 b2.length f2)).setCell ⟨bg, n * 4 + 3, none⟩ (.slice e3 o2.length f3)) { (⟨rA, rc, rs, mA, mc, ms, (some ⟨bg, 0, none⟩), gc, gs, time, dA, dc, ds, lA, lc, ls⟩ : KC) with gs := gs.set n ⟨g2, e1, f1, m2, e2, f2, b2, e3, f3, o2⟩ } (fun b => S b ∨ (w.heap.size <= b /\ b ≠ (w.heap.size + 1 + 1 + 1) /\ b ≠ (w.heap.size + 1 + 1 + 1 + 1))) br bg bd bl) := (((HQ.out.below D3).mono (S' := fun b => S b ∨ (w.heap.size <= b /\ b ≠ (w.heap.size + 1 + 1 + 1) /\ b ≠ (w.heap.size + 1 + 1 + 1 + 1))) (fun b _ hb => .inl hb)).setG n hn ⟨g2, e1, f1, m2, e2, f2, b2, e3, f3, o2⟩ (gp_av hG (fun x hx => (by have h9 := hFf x hx; exact ⟨.inr (by omega), by omega, by omega, by omega, by omega⟩)))); have I6 := I3.turn (Offp.of_only hk6) (fun b e => .inl (by subst e; exact HQ.out.s.2.1)); have C6 : (((((w3.setCell ⟨bg, n * 4, none⟩ (.int .i64 g2)).setCell ⟨bg, n * 4 + 1, none⟩ (.slice e1 m2.length f1)).setCell ⟨bg, n * 4 + 2, none⟩ (.slice e2 b2.length f2)).setCell ⟨bg, n * 4 + 3, none⟩ (.slice e3 o2.length f3))).cell? ⟨bg, n * 4, none⟩ = some (.int .i64 g2) := (by have h := Q6.out.g.i.getGC n (by simpa using hn); simp only [List.getElem_set_self, Nat.zero_add] at h; exact h.1)
   clear hth fz hk6 hG hFf hG3
   have HI6 := hidP I6
   clear I6 C6
   go_upto_region 15 with fail
   clear k0 k1 k2 k3 k4 k5 d0 d1 d2 d3 d4 d5 d6 d7 n0 n1 n2 n3 r0 r1 r2 r3 z0 z1 z2 z3
   have I6 := HI6.out
   clear HI6 I3 D3 G3
   generalize ((((w3.setCell ⟨bg, n * 4, none⟩ (.int .i64 g2)).setCell ⟨bg, n * 4 + 1, none⟩ (.slice e1 m2.length f1)).setCell ⟨bg, n * 4 + 2, none⟩ (.slice e2 b2.length f2)).setCell ⟨bg, n * 4 + 3, none⟩ (.slice e3 o2.length f3)) = X6 at Q6 I6 ⊢
   obtain ⟨k0', k1', k2', k3', k4', k5', k6', k7'⟩ := I6.c.row8c
   have cl := I6.c.lt
   have mkS : ∀ V : World, Blk V (w.heap.size + 1) 90 (Qaa rA rs.length rc mA ms.length mc (some ⟨bg, 0, none⟩) gs.length gc time dA ds.length dc lA ls.length lc) -> V.cell? ⟨(w.heap.size + 1 + 1), 5, none⟩ = some (.int .i64 cc) -> (fun (V : World) => V.cell? ⟨(w.heap.size + 1), 0, none⟩ = some (.slice rA rs.length rc) /\ V.cell? ⟨(w.heap.size + 1), 1, none⟩ = some (.slice mA ms.length mc) /\ V.cell? ⟨(w.heap.size + 1), 2, none⟩ = some (.slice (some ⟨bg, 0, none⟩) gs.length gc) /\ V.cell? ⟨(w.heap.size + 1), 3, none⟩ = some (.int .i64 time) /\ V.cell? ⟨(w.heap.size + 1), 4, none⟩ = some (.slice dA ds.length dc) /\ V.cell? ⟨(w.heap.size + 1), 5, none⟩ = some (.slice lA ls.length lc) /\ V.cell? ⟨(w.heap.size + 1 + 1), 5, none⟩ = some (.int .i64 cc)) V := fun V hk hm0 => by obtain ⟨a0, a1, a2, a3, a4, a5⟩ := hk.row6; exact ⟨a0, a1, a2, a3, a4, a5, hm0⟩
   have SW := mkS _ I6.k.drew (k5')
   have J := I6.drew
   have QQ := hidP (Q6.out.below (Below.refl _ _).drew)
   have M0 : X6.drew.cell? ⟨(w.heap.size + 1 + 1), 5, none⟩ = some (.int .i64 cc) /\ (w.heap.size + 1 + 1) < X6.drew.heap.size := ⟨k5', cl⟩
   refine wp_region_noPanic ?_
   refine wp_region_held_drew (S := (fun (V : World) => V.cell? ⟨(w.heap.size + 1), 0, none⟩ = some (.slice rA rs.length rc) /\ V.cell? ⟨(w.heap.size + 1), 1, none⟩ = some (.slice mA ms.length mc) /\ V.cell? ⟨(w.heap.size + 1), 2, none⟩ = some (.slice (some ⟨bg, 0, none⟩) gs.length gc) /\ V.cell? ⟨(w.heap.size + 1), 3, none⟩ = some (.int .i64 time) /\ V.cell? ⟨(w.heap.size + 1), 4, none⟩ = some (.slice dA ds.length dc) /\ V.cell? ⟨(w.heap.size + 1), 5, none⟩ = some (.slice lA ls.length lc) /\ V.cell? ⟨(w.heap.size + 1 + 1), 5, none⟩ = some (.int .i64 cc))) (by kernel_rfl) ?_ (fun hH => ?_)
   . exact SW
   clear SW hH
   generalize X6.drew = XX at J QQ M0 ⊢
   have hH := mkS XX J.k M0.1
   have TT := hidP (Bx.told J (y := ({ (⟨rA, rc, rs, mA, mc, ms, (some ⟨bg, 0, none⟩), gc, gs, time, dA, dc, ds, lA, lc, ls⟩ : KC) with gs := gs.set n ⟨g2, e1, f1, m2, e2, f2, b2, e3, f3, o2⟩ } : KC)) (br := br) (bg := bg) (bd := bd) (bl := bl) (QQ.out) (⟨(0), (cc), (⟨#[]⟩), (⟨#[]⟩)⟩ : An) (hv := show _ = (Qaa rA rs.length rc mA ms.length mc (some ⟨bg, 0, none⟩) gs.length gc time dA ds.length dc lA ls.length lc) by simp only [KC.cells, List.length_set]))
   obtain ⟨z0, z1, z2, z3, z4, z5⟩ := J.r1.row6
   have f0 := J.r1.thaw 0; have f1 := J.r1.thaw 1; have f2 := J.r1.thaw 2; have f3 := J.r1.thaw 3; have f4 := J.r1.thaw 4; have f5 := J.r1.thaw 5
   obtain ⟨k0, k1, k2, k3, k4, k5⟩ := J.k.row6
   have R2 := J.r2.only (Qac _ (w.heap.size + 1 + 1 + 1) (.slice rA rs.length rc) (.slice mA ms.length mc) (.slice (some ⟨bg, 0, none⟩) gs.length gc) (.int .i64 time) (.slice dA ds.length dc) (.slice lA ls.length lc)) (fun e => J.ne.2.2.2.2.2 e.symm)
   obtain ⟨y0, y1, y2, y3⟩ := R2.row4
   have ee0 := R2.thaw 0; have ee1 := R2.thaw 1; have ee2 := R2.thaw 2; have ee3 := R2.thaw 3
   have C1 := Qat J.r1 (.slice rA rs.length rc) (.slice mA ms.length mc) (.slice (some ⟨bg, 0, none⟩) gs.length gc) (.int .i64 time) (.slice dA ds.length dc) (.slice lA ls.length lc)
   have B1 := (Qax J.r1 (.slice rA rs.length rc) (.slice mA ms.length mc) (.slice (some ⟨bg, 0, none⟩) gs.length gc) (.int .i64 time) (.slice dA ds.length dc) (.slice lA ls.length lc)).only (Qah _ (w.heap.size + 1 + 1 + 1 + 1) (.int .i64 (0)) (.int .i64 (cc)) (.string ⟨#[]⟩) (.string ⟨#[]⟩)) (fun e => J.ne.2.2.2.2.2 e)
   have C2 := Qau R2 (.int .i64 (0)) (.int .i64 (cc)) (.string ⟨#[]⟩) (.string ⟨#[]⟩)
   obtain ⟨s0, s1, s2, s3, s4, s5⟩ := C1
   obtain ⟨t0, t1, t2, t3⟩ := C2
   obtain ⟨q0, q1, q2, q3, q4, q5⟩ := B1.row6
   have hne12 : (w.heap.size + 1 + 1 + 1) ≠ (w.heap.size + 1 + 1 + 1 + 1) := J.ne.2.2.2.2.2
   have hne21 : (w.heap.size + 1 + 1 + 1 + 1) ≠ (w.heap.size + 1 + 1 + 1) := fun e => J.ne.2.2.2.2.2 e.symm
   have SK := hidP (mkS _ (J.k.only (Qac _ (w.heap.size + 1 + 1 + 1) (.slice rA rs.length rc) (.slice mA ms.length mc) (.slice (some ⟨bg, 0, none⟩) gs.length gc) (.int .i64 time) (.slice dA ds.length dc) (.slice lA ls.length lc)) J.ne.2.1) (((Qac XX (w.heap.size + 1 + 1 + 1) (.slice rA rs.length rc) (.slice mA ms.length mc) (.slice (some ⟨bg, 0, none⟩) gs.length gc) (.int .i64 time) (.slice dA ds.length dc) (.slice lA ls.length lc)).cell (p := ⟨(w.heap.size + 1 + 1), 5, none⟩) M0.2 (by show w.heap.size + 1 + 1 ≠ _; omega)).trans M0.1))
   have SN := hidP (mkS _ ((J.k.only (Qac _ (w.heap.size + 1 + 1 + 1) (.slice rA rs.length rc) (.slice mA ms.length mc) (.slice (some ⟨bg, 0, none⟩) gs.length gc) (.int .i64 time) (.slice dA ds.length dc) (.slice lA ls.length lc)) J.ne.2.1).only (Qah _ (w.heap.size + 1 + 1 + 1 + 1) (.int .i64 (0)) (.int .i64 (cc)) (.string ⟨#[]⟩) (.string ⟨#[]⟩)) J.ne.2.2.1) (((Qah (putK XX (w.heap.size + 1 + 1 + 1) (.slice rA rs.length rc) (.slice mA ms.length mc) (.slice (some ⟨bg, 0, none⟩) gs.length gc) (.int .i64 time) (.slice dA ds.length dc) (.slice lA ls.length lc)) (w.heap.size + 1 + 1 + 1 + 1) (.int .i64 (0)) (.int .i64 (cc)) (.string ⟨#[]⟩) (.string ⟨#[]⟩)).cell (p := ⟨(w.heap.size + 1 + 1), 5, none⟩) (Nat.lt_of_lt_of_le M0.2 (Qac XX (w.heap.size + 1 + 1 + 1) (.slice rA rs.length rc) (.slice mA ms.length mc) (.slice (some ⟨bg, 0, none⟩) gs.length gc) (.int .i64 time) (.slice dA ds.length dc) (.slice lA ls.length lc)).size) (by show w.heap.size + 1 + 1 ≠ _; omega)).trans (((Qac XX (w.heap.size + 1 + 1 + 1) (.slice rA rs.length rc) (.slice mA ms.length mc) (.slice (some ⟨bg, 0, none⟩) gs.length gc) (.int .i64 time) (.slice dA ds.length dc) (.slice lA ls.length lc)).cell (p := ⟨(w.heap.size + 1 + 1), 5, none⟩) M0.2 (by show w.heap.size + 1 + 1 ≠ _; omega)).trans M0.1)))
   clear mkS QQ
   refine ztk [0,1,2,3] ?_; repeat (refine ztn (hS := hH) (h := ?_); try simp only [zX,zY])
   refine zte ?_
   refine zR1 4 (fun K hK => ?_)
   simp only [zG]
   go_simp
   skip
   refine hK.out _ _ SK.out fun hH => ?_; clear hK K; try simp only [zX,zY]
   refine zR1 5 (fun K hK => ?_)
   simp only [zG]
   go_simp
   skip
   refine hK.out _ _ SN.out fun hH => ?_; clear hK K; try simp only [zX,zY]
   refine zdn ?_
   go_wp2
   exact bodyPost_ret (v := .tuple #[.agg (Qaa rA rs.length rc mA ms.length mc (some ⟨bg, 0, none⟩) gs.length gc time dA ds.length dc lA ls.length lc), .agg (Qas (0) (cc) ⟨#[]⟩ ⟨#[]⟩)]) (by simp [results, Tryz.results92, go_sem, s0, s1, s2, s3, s4, s5, t0, t1, t2, t3, q0, q1, q2, q3, q4, q5]) rfl (by have h := TT.out; simp only [KC.p, List.map_set] at h; exact h)
theorem Qhm (ro wi le ke : Int) (rA : Option Addr) (rc : Nat) (rs : List RC) (mA : Option Addr) (mc : Nat) (ms : List MC) (gA : Option Addr) (gc : Nat) (gs : List GC) (time : Int) (dA : Option Addr) (dc : Nat) (ds : List Int) (lA : Option Addr) (lc : Nat) (ls : List An) (who seq cb cc : Int) (n : Nat) (key text : ByteArray) (S : Nat -> Prop) (br bg bd bl : Nat) (w : World) (hS : ∀ b, S b -> b < w.heap.size) (hq : KQ w (⟨rA, rc, rs, mA, mc, ms, gA, gc, gs, time, dA, dc, ds, lA, lc, ls⟩ : KC) S br bg bd bl) (hn : n < gs.length) (hrl : gs.length <= 1000)
 (gen : Int) (a1 a2 a3 : Option Addr) (c1 c2 c3 : Nat) (m b o : List Int) (hy : gs[n] = ⟨gen, a1, c1, m, a2, c2, b, a3, c3, o⟩) (hro : ro <= (o.length : Int)) (hcb : 0 <= cb) (hol : o.length <= 100000) :
 Calls Tryz.prog 92 #[.agg (Qan ro wi le ke), .agg (Qaa rA rs.length rc mA ms.length mc gA gs.length gc time dA ds.length dc lA ls.length lc), .agg (Qad who seq 7 (n : Int) cb cc key text)] w fun e w' => Qbu S w w' e (KC.p (⟨rA, rc, rs, mA, mc, ms, gA, gc, gs, time, dA, dc, ds, lA, lc, ls⟩ : KC)) (if ro <= cb then ⟨5, 0, ⟨#[]⟩, ⟨#[]⟩⟩ else ⟨0, o.getD cb.toNat 0, ⟨#[]⟩, ⟨#[]⟩⟩) := by
 obtain rfl : gA = (some ⟨bg, 0, none⟩) := hq.g.a
 have HQ := hidP hq
 obtain ⟨AA, hAA⟩ : ∃ AA : An, AA = (if ro <= cb then ⟨5, 0, ⟨#[]⟩, ⟨#[]⟩⟩ else ⟨0, o.getD cb.toNat 0, ⟨#[]⟩, ⟨#[]⟩⟩) := ⟨_, rfl⟩
 rw [← hAA]
 have HAA := hidP hAA
 have hbr : br < w.heap.size /\ bg < w.heap.size /\ bd < w.heap.size /\ bl < w.heap.size := ⟨hq.r.lt, hq.g.lt, hq.d.lt, hq.l.lt⟩
 have HCl : Hid (∀ W : World, Below w.heap.size w W -> W.cell? ⟨bg, n * 4, none⟩ = some (.int .i64 gen) /\ W.cell? ⟨bg, n * 4 + 1, none⟩ = some (.slice a1 m.length c1) /\ W.cell? ⟨bg, n * 4 + 2, none⟩ = some (.slice a2 b.length c2) /\ W.cell? ⟨bg, n * 4 + 3, none⟩ = some (.slice a3 o.length c3)) := fun W g => by
  have h := (hq.g.i.below hq.g.lt g).getGC n hn
  rw [hy] at h
  simpa only [Nat.zero_add] using h
 have HA : Hid (∀ W : World, Below w.heap.size w W -> At W a1 m /\ At W a2 b /\ At W a3 o) := fun W g => by
  have h := hq.gi gs[n] (List.getElem_mem hn)
  rw [hy] at h
  exact ⟨h.1.at.below g, h.2.1.at.below g, h.2.2.at.below g⟩
 clear hAA hy hq
 obtain ⟨I0, S0, B0⟩ := Qa2 ro wi le ke rA rc rs mA mc ms (some ⟨bg, 0, none⟩) gc gs time dA dc ds lA lc ls who seq 7 (n : Int) cb cc key text S w hS
 have hn0 : (0 : Int) <= (n : Int) := by omega
 have hn1 : (n : Int) < (gs.length : Int) := by omega
 go_enter Tryz.func92, Tryz.ntmps92
 go_upto_region 1 with fail
 generalize ((((w.alloc (.cells (Qan ro wi le ke) 84)).alloc (.cells (Qaa rA rs.length rc mA ms.length mc (some ⟨bg, 0, none⟩) gs.length gc time dA ds.length dc lA ls.length lc) 90)).alloc (.cells (Qad who seq 7 (n : Int) cb cc key text) 105)).alloc (.cells Qab 90)).alloc (.cells Qai 130) = X0 at I0 S0 B0 ⊢
 have l0 : w.heap.size + 1 + 1 + 1 + 1 < X0.heap.size := I0.r2.lt
 obtain ⟨k0, k1, k2, k3, k4, k5⟩ := I0.k.row6
 obtain ⟨d0, d1, d2, d3, d4, d5, d6, d7⟩ := I0.c.row8c
 obtain ⟨r0, r1, r2, r3⟩ := HCl.out _ B0
 go_upto_region 2 with fail
 clear k0 k1 k2 k3 k4 k5 d0 d1 d2 d3 d4 d5 d6 d7 r0 r1 r2 r3
 have I1 := I0.alloc (.cells (Qak gen a1 m.length c1 a2 b.length c2 a3 o.length c3) 128)
 have S1 := S0.alloc (.cells (Qak gen a1 m.length c1 a2 b.length c2 a3 o.length c3) 128)
 have B1 : Below w.heap.size w (X0.alloc (.cells (Qak gen a1 m.length c1 a2 b.length c2 a3 o.length c3) 128)) := Qaf B0 _
 have G1 := Blk.new X0 128 (Qak gen a1 m.length c1 a2 b.length c2 a3 o.length c3)
 have l1 : w.heap.size + 1 + 1 + 1 + 1 < (X0.alloc (.cells (Qak gen a1 m.length c1 a2 b.length c2 a3 o.length c3) 128)).heap.size := I1.r2.lt
 clear I0 S0 B0
 generalize hPG : X0.heap.size = PG at G1 l0 ⊢
 generalize (X0.alloc (.cells (Qak gen a1 m.length c1 a2 b.length c2 a3 o.length c3) 128)) = X2 at I1 S1 B1 G1 l1 ⊢
 clear hPG
 obtain ⟨c0, c1', c2', c3', c4, c5, c6, c7⟩ := I1.c.row8c
 have lpg := G1.lt
 obtain ⟨s0, s1, s2, s3⟩ := S1.row4
 have Q3 := hidP ((HQ.out.below B1).mono (S' := fun b => S b ∨ (w.heap.size <= b /\ b ≠ (w.heap.size + 1 + 1 + 1) /\ b ≠ (w.heap.size + 1 + 1 + 1 + 1))) (fun b _ hb => .inl hb))
 have lsb := S1.lt
 by_cases hr : ro <= cb
 . have eA := HAA.out
   rw [if_pos hr] at eA
   subst eA
   go_upto_region 4 with fail
   clear c0 c1' c2' c3' c4 c5 c6 c7 s0 s1 s2 s3
   have TT := hidP (Bx.told I1 (y := (⟨rA, rc, rs, mA, mc, ms, (some ⟨bg, 0, none⟩), gc, gs, time, dA, dc, ds, lA, lc, ls⟩ : KC)) (br := br) (bg := bg) (bd := bd) (bl := bl) (Q3.out) (⟨(5), (0), (⟨#[]⟩), (⟨#[]⟩)⟩ : An) (hv := rfl))
   obtain ⟨z0, z1, z2, z3, z4, z5⟩ := I1.r1.row6
   have f0 := I1.r1.thaw 0; have f1 := I1.r1.thaw 1; have f2 := I1.r1.thaw 2; have f3 := I1.r1.thaw 3; have f4 := I1.r1.thaw 4; have f5 := I1.r1.thaw 5
   obtain ⟨k0, k1, k2, k3, k4, k5⟩ := I1.k.row6
   have R2 := I1.r2.only (Qac _ (w.heap.size + 1 + 1 + 1) (.slice rA rs.length rc) (.slice mA ms.length mc) (.slice (some ⟨bg, 0, none⟩) gs.length gc) (.int .i64 time) (.slice dA ds.length dc) (.slice lA ls.length lc)) (fun e => I1.ne.2.2.2.2.2 e.symm)
   obtain ⟨y0, y1, y2, y3⟩ := R2.row4
   have ee0 := R2.thaw 0; have ee1 := R2.thaw 1; have ee2 := R2.thaw 2; have ee3 := R2.thaw 3
   have C1 := Qat I1.r1 (.slice rA rs.length rc) (.slice mA ms.length mc) (.slice (some ⟨bg, 0, none⟩) gs.length gc) (.int .i64 time) (.slice dA ds.length dc) (.slice lA ls.length lc)
   have B1 := (Qax I1.r1 (.slice rA rs.length rc) (.slice mA ms.length mc) (.slice (some ⟨bg, 0, none⟩) gs.length gc) (.int .i64 time) (.slice dA ds.length dc) (.slice lA ls.length lc)).only (Qah _ (w.heap.size + 1 + 1 + 1 + 1) (.int .i64 (5)) (.int .i64 (0)) (.string ⟨#[]⟩) (.string ⟨#[]⟩)) (fun e => I1.ne.2.2.2.2.2 e)
   have C2 := Qau R2 (.int .i64 (5)) (.int .i64 (0)) (.string ⟨#[]⟩) (.string ⟨#[]⟩)
   obtain ⟨s0, s1, s2, s3, s4, s5⟩ := C1
   obtain ⟨t0, t1, t2, t3⟩ := C2
   obtain ⟨q0, q1, q2, q3, q4, q5⟩ := B1.row6
   have hne12 : (w.heap.size + 1 + 1 + 1) ≠ (w.heap.size + 1 + 1 + 1 + 1) := I1.ne.2.2.2.2.2
   have hne21 : (w.heap.size + 1 + 1 + 1 + 1) ≠ (w.heap.size + 1 + 1 + 1) := fun e => I1.ne.2.2.2.2.2 e.symm
   go_wp2
   exact bodyPost_ret (v := .tuple #[.agg (Qaa rA rs.length rc mA ms.length mc (some ⟨bg, 0, none⟩) gs.length gc time dA ds.length dc lA ls.length lc), .agg (Qas (5) (0) ⟨#[]⟩ ⟨#[]⟩)]) (by simp [results, Tryz.results92, go_sem, s0, s1, s2, s3, s4, s5, t0, t1, t2, t3, q0, q1, q2, q3, q4, q5]) rfl TT.out
 . have eA := HAA.out
   rw [if_neg hr] at eA
   go_upto_region 5 with fail
   clear s0 s1 s2 s3
   obtain ⟨q, rfl⟩ : ∃ q : Nat, cb = q := ⟨cb.toNat, by omega⟩
   have hqo : q < o.length := by omega
   obtain ⟨v, hv⟩ : ∃ v, o.getD q 0 = v := ⟨_, rfl⟩
   obtain ⟨b9, o9, rfl, hb9, hi9⟩ : ∃ b9 o9, a3 = some ⟨b9, o9, none⟩ /\ b9 < w.heap.size /\ In w b9 o9 o := by
    rcases (HA.out w (Below.refl _ _)).2.2 with h | h
    . subst h; simp at hqo
    . exact h
   have C9 : X2.cell? ⟨b9, o9 + q, none⟩ = some (.int .i64 v) := by
    have h := (hi9.below hb9 B1).cell q hqo (f := 0) (v := .int .i64 v) (by rw [← hv]; simp [Cel.cs, hqo])
    simpa [Cel.k] using h
   have hqz : (q : Int).toNat = q := by omega
   rw [hqz, hv] at eA
   subst eA
   have hq0 : (0 : Int) <= (q : Int) := by omega
   have hq1 : (q : Int) < (o.length : Int) := by omega
   have lb9 : b9 < X2.heap.size := Nat.lt_of_lt_of_le hb9 B1.size
   clear hv hi9 c0 c1' c2' c3'
   obtain ⟨n0, n1, n2, n3⟩ := G1.row4
   have mkS : ∀ V : World, Blk V (w.heap.size + 1) 90 (Qaa rA rs.length rc mA ms.length mc (some ⟨bg, 0, none⟩) gs.length gc time dA ds.length dc lA ls.length lc) -> V.cell? ⟨PG, 3, none⟩ = some (.slice (some ⟨b9, o9, none⟩) o.length c3) -> V.cell? ⟨(w.heap.size + 1 + 1), 4, none⟩ = some (.int .i64 (q : Int)) -> V.cell? ⟨b9, o9 + q, none⟩ = some (.int .i64 v) -> (fun (V : World) => V.cell? ⟨(w.heap.size + 1), 0, none⟩ = some (.slice rA rs.length rc) /\ V.cell? ⟨(w.heap.size + 1), 1, none⟩ = some (.slice mA ms.length mc) /\ V.cell? ⟨(w.heap.size + 1), 2, none⟩ = some (.slice (some ⟨bg, 0, none⟩) gs.length gc) /\ V.cell? ⟨(w.heap.size + 1), 3, none⟩ = some (.int .i64 time) /\ V.cell? ⟨(w.heap.size + 1), 4, none⟩ = some (.slice dA ds.length dc) /\ V.cell? ⟨(w.heap.size + 1), 5, none⟩ = some (.slice lA ls.length lc) /\ V.cell? ⟨PG, 3, none⟩ = some (.slice (some ⟨b9, o9, none⟩) o.length c3) /\ V.cell? ⟨(w.heap.size + 1 + 1), 4, none⟩ = some (.int .i64 (q : Int)) /\ V.cell? ⟨b9, o9 + q, none⟩ = some (.int .i64 v)) V := fun V hk hm0 hm1 hm2 => by obtain ⟨a0, a1, a2, a3, a4, a5⟩ := hk.row6; exact ⟨a0, a1, a2, a3, a4, a5, hm0, hm1, hm2⟩
   have SW := mkS _ I1.k.drew (n3) (c4) (C9)
   have J := I1.drew
   have QQ := hidP (Q3.out.below (Below.refl _ _).drew)
   have M0 : X2.drew.cell? ⟨PG, 3, none⟩ = some (.slice (some ⟨b9, o9, none⟩) o.length c3) /\ PG < X2.drew.heap.size := ⟨n3, lpg⟩
   have M1 : X2.drew.cell? ⟨(w.heap.size + 1 + 1), 4, none⟩ = some (.int .i64 (q : Int)) /\ (w.heap.size + 1 + 1) < X2.drew.heap.size := ⟨c4, I1.c.lt⟩
   have M2 : X2.drew.cell? ⟨b9, o9 + q, none⟩ = some (.int .i64 v) /\ b9 < X2.drew.heap.size := ⟨C9, lb9⟩
   refine wp_region_noPanic ?_
   refine wp_region_held_drew (S := (fun (V : World) => V.cell? ⟨(w.heap.size + 1), 0, none⟩ = some (.slice rA rs.length rc) /\ V.cell? ⟨(w.heap.size + 1), 1, none⟩ = some (.slice mA ms.length mc) /\ V.cell? ⟨(w.heap.size + 1), 2, none⟩ = some (.slice (some ⟨bg, 0, none⟩) gs.length gc) /\ V.cell? ⟨(w.heap.size + 1), 3, none⟩ = some (.int .i64 time) /\ V.cell? ⟨(w.heap.size + 1), 4, none⟩ = some (.slice dA ds.length dc) /\ V.cell? ⟨(w.heap.size + 1), 5, none⟩ = some (.slice lA ls.length lc) /\ V.cell? ⟨PG, 3, none⟩ = some (.slice (some ⟨b9, o9, none⟩) o.length c3) /\ V.cell? ⟨(w.heap.size + 1 + 1), 4, none⟩ = some (.int .i64 (q : Int)) /\ V.cell? ⟨b9, o9 + q, none⟩ = some (.int .i64 v))) (by kernel_rfl) ?_ (fun hH => ?_)
   . exact SW
   clear SW hH
   generalize X2.drew = XX at J QQ M0 M1 M2 ⊢
   have hH := mkS XX J.k M0.1 M1.1 M2.1
   have TT := hidP (Bx.told J (y := (⟨rA, rc, rs, mA, mc, ms, (some ⟨bg, 0, none⟩), gc, gs, time, dA, dc, ds, lA, lc, ls⟩ : KC)) (br := br) (bg := bg) (bd := bd) (bl := bl) (QQ.out) (⟨(0), (v), (⟨#[]⟩), (⟨#[]⟩)⟩ : An) (hv := rfl))
   obtain ⟨z0, z1, z2, z3, z4, z5⟩ := J.r1.row6
   have f0 := J.r1.thaw 0; have f1 := J.r1.thaw 1; have f2 := J.r1.thaw 2; have f3 := J.r1.thaw 3; have f4 := J.r1.thaw 4; have f5 := J.r1.thaw 5
   obtain ⟨k0, k1, k2, k3, k4, k5⟩ := J.k.row6
   have R2 := J.r2.only (Qac _ (w.heap.size + 1 + 1 + 1) (.slice rA rs.length rc) (.slice mA ms.length mc) (.slice (some ⟨bg, 0, none⟩) gs.length gc) (.int .i64 time) (.slice dA ds.length dc) (.slice lA ls.length lc)) (fun e => J.ne.2.2.2.2.2 e.symm)
   obtain ⟨y0, y1, y2, y3⟩ := R2.row4
   have ee0 := R2.thaw 0; have ee1 := R2.thaw 1; have ee2 := R2.thaw 2; have ee3 := R2.thaw 3
   have C1 := Qat J.r1 (.slice rA rs.length rc) (.slice mA ms.length mc) (.slice (some ⟨bg, 0, none⟩) gs.length gc) (.int .i64 time) (.slice dA ds.length dc) (.slice lA ls.length lc)
   have B1 := (Qax J.r1 (.slice rA rs.length rc) (.slice mA ms.length mc) (.slice (some ⟨bg, 0, none⟩) gs.length gc) (.int .i64 time) (.slice dA ds.length dc) (.slice lA ls.length lc)).only (Qah _ (w.heap.size + 1 + 1 + 1 + 1) (.int .i64 (0)) (.int .i64 (v)) (.string ⟨#[]⟩) (.string ⟨#[]⟩)) (fun e => J.ne.2.2.2.2.2 e)
   have C2 := Qau R2 (.int .i64 (0)) (.int .i64 (v)) (.string ⟨#[]⟩) (.string ⟨#[]⟩)
   obtain ⟨s0, s1, s2, s3, s4, s5⟩ := C1
   obtain ⟨t0, t1, t2, t3⟩ := C2
   obtain ⟨q0, q1, q2, q3, q4, q5⟩ := B1.row6
   have hne12 : (w.heap.size + 1 + 1 + 1) ≠ (w.heap.size + 1 + 1 + 1 + 1) := J.ne.2.2.2.2.2
   have hne21 : (w.heap.size + 1 + 1 + 1 + 1) ≠ (w.heap.size + 1 + 1 + 1) := fun e => J.ne.2.2.2.2.2 e.symm
   have SK := hidP (mkS _ (J.k.only (Qac _ (w.heap.size + 1 + 1 + 1) (.slice rA rs.length rc) (.slice mA ms.length mc) (.slice (some ⟨bg, 0, none⟩) gs.length gc) (.int .i64 time) (.slice dA ds.length dc) (.slice lA ls.length lc)) J.ne.2.1) (((Qac XX (w.heap.size + 1 + 1 + 1) (.slice rA rs.length rc) (.slice mA ms.length mc) (.slice (some ⟨bg, 0, none⟩) gs.length gc) (.int .i64 time) (.slice dA ds.length dc) (.slice lA ls.length lc)).cell (p := ⟨PG, 3, none⟩) M0.2 (by show PG ≠ _; omega)).trans M0.1) (((Qac XX (w.heap.size + 1 + 1 + 1) (.slice rA rs.length rc) (.slice mA ms.length mc) (.slice (some ⟨bg, 0, none⟩) gs.length gc) (.int .i64 time) (.slice dA ds.length dc) (.slice lA ls.length lc)).cell (p := ⟨(w.heap.size + 1 + 1), 4, none⟩) M1.2 (by show w.heap.size + 1 + 1 ≠ _; omega)).trans M1.1) (((Qac XX (w.heap.size + 1 + 1 + 1) (.slice rA rs.length rc) (.slice mA ms.length mc) (.slice (some ⟨bg, 0, none⟩) gs.length gc) (.int .i64 time) (.slice dA ds.length dc) (.slice lA ls.length lc)).cell (p := ⟨b9, o9 + q, none⟩) M2.2 (by show b9 ≠ _; omega)).trans M2.1))
   have SN := hidP (mkS _ ((J.k.only (Qac _ (w.heap.size + 1 + 1 + 1) (.slice rA rs.length rc) (.slice mA ms.length mc) (.slice (some ⟨bg, 0, none⟩) gs.length gc) (.int .i64 time) (.slice dA ds.length dc) (.slice lA ls.length lc)) J.ne.2.1).only (Qah _ (w.heap.size + 1 + 1 + 1 + 1) (.int .i64 (0)) (.int .i64 (v)) (.string ⟨#[]⟩) (.string ⟨#[]⟩)) J.ne.2.2.1) (((Qah (putK XX (w.heap.size + 1 + 1 + 1) (.slice rA rs.length rc) (.slice mA ms.length mc) (.slice (some ⟨bg, 0, none⟩) gs.length gc) (.int .i64 time) (.slice dA ds.length dc) (.slice lA ls.length lc)) (w.heap.size + 1 + 1 + 1 + 1) (.int .i64 (0)) (.int .i64 (v)) (.string ⟨#[]⟩) (.string ⟨#[]⟩)).cell (p := ⟨PG, 3, none⟩) (Nat.lt_of_lt_of_le M0.2 (Qac XX (w.heap.size + 1 + 1 + 1) (.slice rA rs.length rc) (.slice mA ms.length mc) (.slice (some ⟨bg, 0, none⟩) gs.length gc) (.int .i64 time) (.slice dA ds.length dc) (.slice lA ls.length lc)).size) (by show PG ≠ _; omega)).trans (((Qac XX (w.heap.size + 1 + 1 + 1) (.slice rA rs.length rc) (.slice mA ms.length mc) (.slice (some ⟨bg, 0, none⟩) gs.length gc) (.int .i64 time) (.slice dA ds.length dc) (.slice lA ls.length lc)).cell (p := ⟨PG, 3, none⟩) M0.2 (by show PG ≠ _; omega)).trans M0.1)) (((Qah (putK XX (w.heap.size + 1 + 1 + 1) (.slice rA rs.length rc) (.slice mA ms.length mc) (.slice (some ⟨bg, 0, none⟩) gs.length gc) (.int .i64 time) (.slice dA ds.length dc) (.slice lA ls.length lc)) (w.heap.size + 1 + 1 + 1 + 1) (.int .i64 (0)) (.int .i64 (v)) (.string ⟨#[]⟩) (.string ⟨#[]⟩)).cell (p := ⟨(w.heap.size + 1 + 1), 4, none⟩) (Nat.lt_of_lt_of_le M1.2 (Qac XX (w.heap.size + 1 + 1 + 1) (.slice rA rs.length rc) (.slice mA ms.length mc) (.slice (some ⟨bg, 0, none⟩) gs.length gc) (.int .i64 time) (.slice dA ds.length dc) (.slice lA ls.length lc)).size) (by show w.heap.size + 1 + 1 ≠ _; omega)).trans (((Qac XX (w.heap.size + 1 + 1 + 1) (.slice rA rs.length rc) (.slice mA ms.length mc) (.slice (some ⟨bg, 0, none⟩) gs.length gc) (.int .i64 time) (.slice dA ds.length dc) (.slice lA ls.length lc)).cell (p := ⟨(w.heap.size + 1 + 1), 4, none⟩) M1.2 (by show w.heap.size + 1 + 1 ≠ _; omega)).trans M1.1)) (((Qah (putK XX (w.heap.size + 1 + 1 + 1) (.slice rA rs.length rc) (.slice mA ms.length mc) (.slice (some ⟨bg, 0, none⟩) gs.length gc) (.int .i64 time) (.slice dA ds.length dc) (.slice lA ls.length lc)) (w.heap.size + 1 + 1 + 1 + 1) (.int .i64 (0)) (.int .i64 (v)) (.string ⟨#[]⟩) (.string ⟨#[]⟩)).cell (p := ⟨b9, o9 + q, none⟩) (Nat.lt_of_lt_of_le M2.2 (Qac XX (w.heap.size + 1 + 1 + 1) (.slice rA rs.length rc) (.slice mA ms.length mc) (.slice (some ⟨bg, 0, none⟩) gs.length gc) (.int .i64 time) (.slice dA ds.length dc) (.slice lA ls.length lc)).size) (by show b9 ≠ _; omega)).trans (((Qac XX (w.heap.size + 1 + 1 + 1) (.slice rA rs.length rc) (.slice mA ms.length mc) (.slice (some ⟨bg, 0, none⟩) gs.length gc) (.int .i64 time) (.slice dA ds.length dc) (.slice lA ls.length lc)).cell (p := ⟨b9, o9 + q, none⟩) M2.2 (by show b9 ≠ _; omega)).trans M2.1)))
   clear mkS QQ
   refine ztk [0,1,2,3,4,5,6,7] ?_; repeat (refine ztn (hS := hH) (h := ?_); try simp only [zX,zY])
   refine zte ?_
   refine zR1 8 (fun K hK => ?_)
   simp only [zG]
   go_simp
   skip
   refine hK.out _ _ SK.out fun hH => ?_; clear hK K; try simp only [zX,zY]
   refine zR1 9 (fun K hK => ?_)
   simp only [zG]
   go_simp
   skip
   refine hK.out _ _ SN.out fun hH => ?_; clear hK K; try simp only [zX,zY]
   refine zdn ?_
   go_wp2
   exact bodyPost_ret (v := .tuple #[.agg (Qaa rA rs.length rc mA ms.length mc (some ⟨bg, 0, none⟩) gs.length gc time dA ds.length dc lA ls.length lc), .agg (Qas (0) (v) ⟨#[]⟩ ⟨#[]⟩)]) (by simp [results, Tryz.results92, go_sem, s0, s1, s2, s3, s4, s5, t0, t1, t2, t3, q0, q1, q2, q3, q4, q5]) rfl TT.out
theorem rp_of {rs : List RC} {n : Nat} (hn : n < rs.length) : (rs.map RC.p).getD n ⟨0, 0, []⟩ = rs[n].p := by simp [hn]
theorem gp_of {gs : List GC} {n : Nat} (hn : n < gs.length) : (gs.map GC.p).getD n ⟨0, [], [], []⟩ = gs[n].p := by simp [hn]
theorem Qge {x : Int} {h : Int} (hx : In2 x h) (hh : h <= 100000) : I64 x := by unfold In2 at hx; unfold I64; omega
theorem Kin.len {R N : Nat} (hN : N <= 1000) (hR : 1 <= R /\ R <= 4) {x : KC} (h : Kin R N x.p) : KLen x := by
 have hrl : x.rs.length = R := by have := h.rl; simpa [KC.p] using this
 have hml : x.ms.length <= N := by have := h.ml; simpa [KC.p] using this
 have hgl : x.gs.length = 2 := by have := h.gl; simpa [KC.p] using this
 have ht := h.t
 refine ⟨⟨by omega, by omega⟩, by omega, hgl, h.dl, h.ll, fun y hy => ?_, fun y hy => ?_, fun y hy => ?_, Qge ht (by omega)⟩
 . obtain ⟨g1, g2, g3, g4⟩ := Qcs (h.ri y.p (List.mem_map_of_mem hy))
   exact ⟨by have : y.p.its = y.its := rfl; rw [this] at g3; omega, fun z hz => ⟨(g4 z hz).2.2.2.1, (g4 z hz).2.2.2.2⟩, Qge g2 (by omega)⟩
 . have := (h.mi y.p (List.mem_map_of_mem hy)).len
   have e : y.p.ms = y.ms := rfl
   rw [e] at this
   omega
 . have g := h.gi y.p (List.mem_map_of_mem hy)
   have e1 : y.p.m = y.m := rfl
   have e2 : y.p.b = y.b := rfl
   have e3 : y.p.o = y.o := rfl
   have gl := g.len
   have go := g.ol
   rw [e1] at gl
   rw [e3] at go
   exact ⟨by omega, g.same, by omega, Qge g.gen (by omega), fun z hz => Qge (g.m z hz) (by omega), fun z hz => Qge (g.b z hz) (by omega), fun z hz => Qge (g.o z hz) (by omega)⟩
theorem grpDo_any (R N : Nat) (hN : N <= 1000) (hR : 1 <= R /\ R <= 4) (ro wi le ke : Int) (hro : ro = R) (hw : 1 <= wi /\ wi <= 5) (hle : 1 <= le /\ le <= 100) (hke : 0 <= ke) (rA : Option Addr) (rc : Nat) (rs : List RC) (mA : Option Addr) (mc : Nat) (ms : List MC) (gA : Option Addr) (gc : Nat) (gs : List GC) (time : Int) (dA : Option Addr) (dc : Nat) (ds : List Int) (lA : Option Addr) (lc : Nat) (ls : List An) (who seq op ca cb cc : Int) (key text : ByteArray) (hc : CqR (⟨who, seq, op, ca, cb, cc, key, text⟩ : Cq)) (S : Nat -> Prop) (br bg bd bl : Nat) (w : World) (hS : ∀ b, S b -> b < w.heap.size) (hq : KQ w (⟨rA, rc, rs, mA, mc, ms, gA, gc, gs, time, dA, dc, ds, lA, lc, ls⟩ : KC) S br bg bd bl) (hk : Kin R N (KC.p (⟨rA, rc, rs, mA, mc, ms, gA, gc, gs, time, dA, dc, ds, lA, lc, ls⟩ : KC))) (hcap : (∀ g ∈ gs, (g.m.length <= g.c1 /\ g.c1 <= 9223372036854775807) /\ (g.b.length <= g.c2 /\ g.c2 <= 9223372036854775807))) (hop : inB op 4 7 = true) (ha : ¬ 2 <= ca) :
 Calls Tryz.prog 92 #[.agg (Qan ro wi le ke), .agg (Qaa rA rs.length rc mA ms.length mc gA gs.length gc time dA ds.length dc lA ls.length lc), .agg (Qad who seq op ca cb cc key text)] w fun e w' => Qbu S w w' e (Qd4 ro (KC.p (⟨rA, rc, rs, mA, mc, ms, gA, gc, gs, time, dA, dc, ds, lA, lc, ls⟩ : KC)) (⟨who, seq, op, ca, cb, cc, key, text⟩ : Cq)).1 (Qd4 ro (KC.p (⟨rA, rc, rs, mA, mc, ms, gA, gc, gs, time, dA, dc, ds, lA, lc, ls⟩ : KC)) (⟨who, seq, op, ca, cb, cc, key, text⟩ : Cq)).2 := by
 have hlen := hk.len hN hR
 have hgl : gs.length = 2 := hlen.gl
 have hca := hc.a
 unfold In2 at hca
 simp only at hca
 obtain ⟨n, rfl⟩ : ∃ n : Nat, ca = n := ⟨ca.toNat, by omega⟩
 have hn : n < gs.length := by omega
 have hgi := hlen.gi gs[n] (List.getElem_mem hn)
 have hcp := hcap gs[n] (List.getElem_mem hn)
 have hgr := hk.gi gs[n].p (List.mem_map_of_mem (List.getElem_mem hn))
 have hQ : grpQ (KC.p (⟨rA, rc, rs, mA, mc, ms, gA, gc, gs, time, dA, dc, ds, lA, lc, ls⟩ : KC)) (n : Int).toNat = gs[n].p := gp_of hn
 obtain ⟨y, hy⟩ : ∃ y, gs[n] = y := ⟨_, rfl⟩
 rw [hy] at hgi hcp hgr hQ
 obtain ⟨gen, a1, c1, m, a2, c2, b, a3, c3, o⟩ := y
 simp only [GC.p] at hgi hcp hgr hQ
 have hwho := hc.who
 have hcb := hc.b
 have hol := hgr.ol
 unfold In2 at hwho hcb
 simp only at hwho hcb hol
 obtain ⟨h4, h7⟩ : 4 <= op /\ op <= 7 := by simpa [inB] using hop
 have hti : I64 time := hlen.t
 rcases (by omega : op = 4 ∨ op = 5 ∨ op = 6 ∨ op = 7) with rfl | rfl | rfl | rfl
 . have e : Qd4 ro (KC.p (⟨rA, rc, rs, mA, mc, ms, gA, gc, gs, time, dA, dc, ds, lA, lc, ls⟩ : KC)) (⟨who, seq, 4, (n : Int), cb, cc, key, text⟩ : Cq) = ({ KC.p (⟨rA, rc, rs, mA, mc, ms, gA, gc, gs, time, dA, dc, ds, lA, lc, ls⟩ : KC) with gs := (gs.map GC.p).set n ⟨Qe8 gen m who, Qdv m who, Qe9 m b who time, o⟩ }, noAn 0 (Qe8 gen m who)) := by
    unfold Qd4
    simp only [if_true, hQ]
    rfl
   rw [e]
   exact Qho ro wi le ke rA rc rs mA mc ms gA gc gs time dA dc ds lA lc ls who seq cb cc n key text S br bg bd bl w hS hq hn (by omega) gen a1 a2 a3 c1 c2 c3 m b o hy _ _ _ _ (fun W h1 h2 h3 => Qg5 gen who time hgi.2.2.2.1 hwho a1 a2 a3 c1 c2 c3 m b o (by omega) hgi.2.1 (by omega) hcp.1 hcp.2 W h1 h2 h3)
 . have e : Qd4 ro (KC.p (⟨rA, rc, rs, mA, mc, ms, gA, gc, gs, time, dA, dc, ds, lA, lc, ls⟩ : KC)) (⟨who, seq, 5, (n : Int), cb, cc, key, text⟩ : Cq) = ({ KC.p (⟨rA, rc, rs, mA, mc, ms, gA, gc, gs, time, dA, dc, ds, lA, lc, ls⟩ : KC) with gs := (gs.map GC.p).set n ⟨Qdh gen m who, Qce m who m, Qce m who b, o⟩ }, noAn 0 (Qdh gen m who)) := by
    unfold Qd4
    simp only [hQ]
    rw [if_neg (by decide)]
    first | rw [if_pos rfl] | rw [if_pos trivial]
    rfl
   rw [e]
   exact Qgp ro wi le ke rA rc rs mA mc ms gA gc gs time dA dc ds lA lc ls who seq cb cc n key text S br bg bd bl w hS hq hn (by omega) gen a1 a2 a3 c1 c2 c3 m b o hy _ _ _ _ (fun W h1 h2 h3 => Qgk gen who hgi.2.2.2.1 hwho a1 a2 a3 c1 c2 c3 m b o (by omega) (by omega) (by omega) hcp.1 hcp.2 W h1 h2 h3)
 . have e : Qd4 ro (KC.p (⟨rA, rc, rs, mA, mc, ms, gA, gc, gs, time, dA, dc, ds, lA, lc, ls⟩ : KC)) (⟨who, seq, 6, (n : Int), cb, cc, key, text⟩ : Cq) = (if Qeh m o who cb cc then { KC.p (⟨rA, rc, rs, mA, mc, ms, gA, gc, gs, time, dA, dc, ds, lA, lc, ls⟩ : KC) with gs := (gs.map GC.p).set n ⟨gen, m, b, Qgn m o who cb cc⟩ } else KC.p (⟨rA, rc, rs, mA, mc, ms, gA, gc, gs, time, dA, dc, ds, lA, lc, ls⟩ : KC), if Qeh m o who cb cc then noAn 0 cc else noAn 9 0) := by
    unfold Qd4
    simp only [hQ]
    rw [if_neg (by decide), if_neg (by decide)]
    first | rw [if_pos rfl] | rw [if_pos trivial]
    rfl
   rw [e]
   exact Qhn ro wi le ke rA rc rs mA mc ms gA gc gs time dA dc ds lA lc ls who seq cb cc n key text S br bg bd bl w hS hq hn (by omega) gen a1 a2 a3 c1 c2 c3 m b o hy _ _ _ _ _ (fun W h1 h2 h3 => Qg4 gen who cb cc a1 a2 a3 c1 c2 c3 m b o (by omega) (by omega) (by omega) hgi.2.2.2.2.1 W h1 h2 h3)
 . have e : Qd4 ro (KC.p (⟨rA, rc, rs, mA, mc, ms, gA, gc, gs, time, dA, dc, ds, lA, lc, ls⟩ : KC)) (⟨who, seq, 7, (n : Int), cb, cc, key, text⟩ : Cq) = (KC.p (⟨rA, rc, rs, mA, mc, ms, gA, gc, gs, time, dA, dc, ds, lA, lc, ls⟩ : KC), if ro <= cb then noAn 5 0 else noAn 0 (o.getD cb.toNat 0)) := by
    unfold Qd4
    simp only [hQ]
    rw [if_neg (by decide), if_neg (by decide), if_neg (by decide)]
   rw [e]
   exact Qhm ro wi le ke rA rc rs mA mc ms gA gc gs time dA dc ds lA lc ls who seq cb cc n key text S br bg bd bl w hS hq hn (by omega) gen a1 a2 a3 c1 c2 c3 m b o hy (by omega) hcb.1 (by omega)
theorem putDo_any (R N : Nat) (hN : N <= 1000) (hR : 1 <= R /\ R <= 4) (ro wi le ke : Int) (hro : ro = R) (hw : 1 <= wi /\ wi <= 5) (hle : 1 <= le /\ le <= 100) (hke : 0 <= ke) (rA : Option Addr) (rc : Nat) (rs : List RC) (mA : Option Addr) (mc : Nat) (ms : List MC) (gA : Option Addr) (gc : Nat) (gs : List GC) (time : Int) (dA : Option Addr) (dc : Nat) (ds : List Int) (lA : Option Addr) (lc : Nat) (ls : List An) (who seq : Int) (n : Nat) (cb cc : Int) (key text : ByteArray) (hc : CqR (⟨who, seq, 1, (n : Int), cb, cc, key, text⟩ : Cq)) (S : Nat -> Prop) (br bg bd bl : Nat) (w : World) (hS : ∀ b, S b -> b < w.heap.size) (hq : KQ w (⟨rA, rc, rs, mA, mc, ms, gA, gc, gs, time, dA, dc, ds, lA, lc, ls⟩ : KC) S br bg bd bl) (hk : Kin R N (KC.p (⟨rA, rc, rs, mA, mc, ms, gA, gc, gs, time, dA, dc, ds, lA, lc, ls⟩ : KC))) (hn : n < rs.length) :
 Calls Tryz.prog 100 #[.agg (Qan ro wi le ke), .agg (Qaa rA rs.length rc mA ms.length mc gA gs.length gc time dA ds.length dc lA ls.length lc), .agg (Qad who seq 1 (n : Int) cb cc key text)] w fun e w' => Qbu S w w' e (Qc9 wi le ke (KC.p (⟨rA, rc, rs, mA, mc, ms, gA, gc, gs, time, dA, dc, ds, lA, lc, ls⟩ : KC)) (⟨who, seq, 1, (n : Int), cb, cc, key, text⟩ : Cq)).1 (Qc9 wi le ke (KC.p (⟨rA, rc, rs, mA, mc, ms, gA, gc, gs, time, dA, dc, ds, lA, lc, ls⟩ : KC)) (⟨who, seq, 1, (n : Int), cb, cc, key, text⟩ : Cq)).2 := by
 have hlen := hk.len hN hR
 have hM : mofP ms (n : Int) who = mofQ (KC.p (⟨rA, rc, rs, mA, mc, ms, gA, gc, gs, time, dA, dc, ds, lA, lc, ls⟩ : KC)).ms (n : Int) who := mofQ_p ms n who
 have hA := askC_R (mofP ms (n : Int) who).epoch (mofP ms (n : Int) who).last (mofP ms (n : Int) who).ms cc cb
 unfold In2 at hA
 have e0 : Qc9 wi le ke (KC.p (⟨rA, rc, rs, mA, mc, ms, gA, gc, gs, time, dA, dc, ds, lA, lc, ls⟩ : KC)) (⟨who, seq, 1, (n : Int), cb, cc, key, text⟩ : Cq) = (if askC (mofP ms (n : Int) who).epoch (mofP ms (n : Int) who).last (mofP ms (n : Int) who).ms cc cb = 0 then putQ (KC.p (⟨rA, rc, rs, mA, mc, ms, gA, gc, gs, time, dA, dc, ds, lA, lc, ls⟩ : KC)) wi ⟨who, seq, 1, (n : Int), cb, cc, key, text⟩
  else if askC (mofP ms (n : Int) who).epoch (mofP ms (n : Int) who).last (mofP ms (n : Int) who).ms cc cb = 1 then (KC.p (⟨rA, rc, rs, mA, mc, ms, gA, gc, gs, time, dA, dc, ds, lA, lc, ls⟩ : KC), noAn 1 (askO (mofP ms (n : Int) who).epoch (mofP ms (n : Int) who).last (mofP ms (n : Int) who).ms cc cb))
  else (KC.p (⟨rA, rc, rs, mA, mc, ms, gA, gc, gs, time, dA, dc, ds, lA, lc, ls⟩ : KC), noAn (askC (mofP ms (n : Int) who).epoch (mofP ms (n : Int) who).last (mofP ms (n : Int) who).ms cc cb) 0)) := by
  unfold Qc9
  simp only [if_true, hM]
 rw [e0]
 have hw64 : I64 wi := by unfold I64; omega
 rcases (by omega : askC (mofP ms (n : Int) who).epoch (mofP ms (n : Int) who).last (mofP ms (n : Int) who).ms cc cb = 0 ∨ askC (mofP ms (n : Int) who).epoch (mofP ms (n : Int) who).last (mofP ms (n : Int) who).ms cc cb = 1 ∨ askC (mofP ms (n : Int) who).epoch (mofP ms (n : Int) who).last (mofP ms (n : Int) who).ms cc cb = 2 ∨ askC (mofP ms (n : Int) who).epoch (mofP ms (n : Int) who).last (mofP ms (n : Int) who).ms cc cb = 3 ∨ askC (mofP ms (n : Int) who).epoch (mofP ms (n : Int) who).last (mofP ms (n : Int) who).ms cc cb = 4) with h | h | h | h | h
 . rw [if_pos h]
   have e1 : putQ (KC.p (⟨rA, rc, rs, mA, mc, ms, gA, gc, gs, time, dA, dc, ds, lA, lc, ls⟩ : KC)) wi ⟨who, seq, 1, (n : Int), cb, cc, key, text⟩ = putP (⟨rA, rc, rs, mA, mc, ms, gA, gc, gs, time, dA, dc, ds, lA, lc, ls⟩ : KC) wi n who cb cc key text := by
    unfold putQ putP
    simp only [← hM]
    have hr : rowQ (KC.p (⟨rA, rc, rs, mA, mc, ms, gA, gc, gs, time, dA, dc, ds, lA, lc, ls⟩ : KC)) (n : Int).toNat = rs[n].p := rp_of hn
    have hr2 : (rs.getD n default) = rs[n] := by simp [hn]
    rw [hr, hr2]
    rfl
   rw [e1]
   exact l6Put_go ro wi le ke rA rc rs mA mc ms gA gc gs time dA dc ds lA lc ls who seq 1 cb cc n key text S br bg bd bl hlen w hS hq hn hc.key hc.text hw64 h
 . rw [if_neg (by omega), if_pos h]
   exact Qil ro wi le ke rA rc rs mA mc ms gA gc gs time dA dc ds lA lc ls who seq 1 (n : Int) cb cc key text S br bg bd bl hlen w hS hq h
 . rw [if_neg (by omega), if_neg (by omega), h]
   exact l6Put_old ro wi le ke rA rc rs mA mc ms gA gc gs time dA dc ds lA lc ls who seq 1 (n : Int) cb cc key text S br bg bd bl hlen w hS hq h
 . rw [if_neg (by omega), if_neg (by omega), h]
   exact l6Put_gap ro wi le ke rA rc rs mA mc ms gA gc gs time dA dc ds lA lc ls who seq 1 (n : Int) cb cc key text S br bg bd bl hlen w hS hq h
 . rw [if_neg (by omega), if_neg (by omega), h]
   exact Qhl ro wi le ke rA rc rs mA mc ms gA gc gs time dA dc ds lA lc ls who seq 1 (n : Int) cb cc key text S br bg bd bl hlen w hS hq h
theorem rowDo_any (R N : Nat) (hN : N <= 1000) (hR : 1 <= R /\ R <= 4) (ro wi le ke : Int) (hro : ro = R) (hw : 1 <= wi /\ wi <= 5) (hle : 1 <= le /\ le <= 100) (hke : 0 <= ke) (rA : Option Addr) (rc : Nat) (rs : List RC) (mA : Option Addr) (mc : Nat) (ms : List MC) (gA : Option Addr) (gc : Nat) (gs : List GC) (time : Int) (dA : Option Addr) (dc : Nat) (ds : List Int) (lA : Option Addr) (lc : Nat) (ls : List An) (who seq op ca cb cc : Int) (key text : ByteArray) (hc : CqR (⟨who, seq, op, ca, cb, cc, key, text⟩ : Cq)) (S : Nat -> Prop) (br bg bd bl : Nat) (w : World) (hS : ∀ b, S b -> b < w.heap.size) (hq : KQ w (⟨rA, rc, rs, mA, mc, ms, gA, gc, gs, time, dA, dc, ds, lA, lc, ls⟩ : KC) S br bg bd bl) (hk : Kin R N (KC.p (⟨rA, rc, rs, mA, mc, ms, gA, gc, gs, time, dA, dc, ds, lA, lc, ls⟩ : KC))) (hop : inB op 4 7 = false) (h8 : ¬ op = 8) (ha : ¬ ro <= ca) :
    Calls Tryz.prog 93 #[.agg (Qan ro wi le ke), .agg (Qaa rA rs.length rc mA ms.length mc gA gs.length gc time dA ds.length dc lA ls.length lc), .agg (Qad who seq op ca cb cc key text)] w fun e w' => Qbu S w w' e (Qc9 wi le ke (KC.p (⟨rA, rc, rs, mA, mc, ms, gA, gc, gs, time, dA, dc, ds, lA, lc, ls⟩ : KC)) (⟨who, seq, op, ca, cb, cc, key, text⟩ : Cq)).1 (Qc9 wi le ke (KC.p (⟨rA, rc, rs, mA, mc, ms, gA, gc, gs, time, dA, dc, ds, lA, lc, ls⟩ : KC)) (⟨who, seq, op, ca, cb, cc, key, text⟩ : Cq)).2 := by
  have hlen := hk.len hN hR
  have hrl : rs.length = R := by have := hk.rl; simpa [KC.p] using this
  have hca := hc.a
  have hops := hc.op
  unfold In2 at hca
  simp only at hca hops
  obtain ⟨n, rfl⟩ : ∃ n : Nat, ca = n := ⟨ca.toNat, by omega⟩
  have hn : n < rs.length := by omega
  have hri := hlen.ri rs[n] (List.getElem_mem hn)
  have hrb := hk.ri rs[n].p (List.mem_map_of_mem (List.getElem_mem hn))
  have hQ : rowQ (KC.p (⟨rA, rc, rs, mA, mc, ms, gA, gc, gs, time, dA, dc, ds, lA, lc, ls⟩ : KC)) (n : Int).toNat = rs[n].p := rp_of hn
  obtain ⟨I0, S0, B0⟩ := Qa2 ro wi le ke rA rc rs mA mc ms gA gc gs time dA dc ds lA lc ls who seq op (n : Int) cb cc key text S w hS
  have hq1 := hq.below B0
  have hS1 : ∀ b, S b -> b < (((((w.alloc (.cells (Qan ro wi le ke) 84)).alloc (.cells (Qaa rA rs.length rc mA ms.length mc gA gs.length gc time dA ds.length dc lA ls.length lc) 90)).alloc (.cells (Qad who seq op (n : Int) cb cc key text) 105)).alloc (.cells Qab 90)).alloc (.cells Qai 130)).heap.size := fun b hb => Nat.lt_of_lt_of_le (hS b hb) B0.size
  obtain ⟨y, hy⟩ : ∃ y, rs[n] = y := ⟨_, rfl⟩
  rw [hy] at hri hrb hQ
  obtain ⟨st, nt, yA, yc, ym⟩ := y
  simp only [RC.p] at hri hrb hQ
  have hno : ¬ (4 <= op /\ op <= 7) := fun h => by
    have : inB op 4 7 = true := by simpa [inB] using h
    rw [hop] at this; cases this
  rcases (by omega : op = 1 ∨ op = 2 ∨ op = 3 ∨ op = 9 ∨ op = 10) with rfl | rfl | rfl | rfl | rfl
  . exact l6Row_put ro wi le ke rA rc rs mA mc ms gA gc gs time dA dc ds lA lc ls who seq (n : Int) cb cc key text S w hS _ _ (putDo_any R N hN hR ro wi le ke hro hw hle hke rA rc rs mA mc ms gA gc gs time dA dc ds lA lc ls who seq n cb cc key text hc S br bg bd bl _ hS1 hq1 hk hn)
  . have e : Qc9 wi le ke (KC.p (⟨rA, rc, rs, mA, mc, ms, gA, gc, gs, time, dA, dc, ds, lA, lc, ls⟩ : KC)) (⟨who, seq, 2, (n : Int), cb, cc, key, text⟩ : Cq) = (KC.p (⟨rA, rc, rs, mA, mc, ms, gA, gc, gs, time, dA, dc, ds, lA, lc, ls⟩ : KC), getA ⟨st, nt, ym⟩ cb) := by
      unfold Qc9
      simp only [hQ]
      rw [if_neg (by decide), if_neg (by decide)]
      first | rw [if_pos rfl] | rw [if_pos trivial]
    rw [e]
    have hhow : Items.getHow st ym cb = 1 ∨ Items.getHow st ym cb = 2 ∨ Items.getHow st ym cb = 0 := by
      unfold Items.getHow
      split
      . exact .inl rfl
      . split
        . exact .inr (.inr rfl)
        . exact .inr (.inl rfl)
    exact l6Row_get ro wi le ke rA rc rs mA mc ms gA gc gs time dA dc ds lA lc ls who seq cb cc n key text S br bg bd bl w hS hq hn (by omega) st nt yA yc ym hy _ _ _ _ _ _ (fun W hA => Items.specRowGet_any st nt cb yA yc ym (by omega) W hA) hhow
  . have hM : mofP ms (n : Int) who = mofQ (KC.p (⟨rA, rc, rs, mA, mc, ms, gA, gc, gs, time, dA, dc, ds, lA, lc, ls⟩ : KC)).ms (n : Int) who := mofQ_p ms n who
    have e : Qc9 wi le ke (KC.p (⟨rA, rc, rs, mA, mc, ms, gA, gc, gs, time, dA, dc, ds, lA, lc, ls⟩ : KC)) (⟨who, seq, 3, (n : Int), cb, cc, key, text⟩ : Cq) = (if cb <= (mofP ms (n : Int) who).epoch then (KC.p (⟨rA, rc, rs, mA, mc, ms, gA, gc, gs, time, dA, dc, ds, lA, lc, ls⟩ : KC), noAn 4 (mofP ms (n : Int) who).epoch) else ({ KC.p (⟨rA, rc, rs, mA, mc, ms, gA, gc, gs, time, dA, dc, ds, lA, lc, ls⟩ : KC) with ms := setS (ms.map MC.p) ⟨(n : Int), who, cb, -1, []⟩ }, noAn 0 cb)) := by
      unfold Qc9
      simp only
      rw [if_neg (by decide)]
      first | rw [if_pos rfl] | rw [if_pos trivial]
      unfold epochQ
      simp only [← hM]
      rfl
    rw [e]
    by_cases h : cb <= (mofP ms (n : Int) who).epoch
    . rw [if_pos h]
      exact Qfs ro wi le ke rA rc rs mA mc ms gA gc gs time dA dc ds lA lc ls who seq (n : Int) cb cc key text S w hS _ _ (l6Epoch_no rA rc rs mA mc ms gA gc gs time dA dc ds lA lc ls who seq 3 (n : Int) cb cc key text S br bg bd bl hlen _ hS1 hq1 h)
    . rw [if_neg h]
      exact Qfs ro wi le ke rA rc rs mA mc ms gA gc gs time dA dc ds lA lc ls who seq (n : Int) cb cc key text S w hS _ _ (Qio rA rc rs mA mc ms gA gc gs time dA dc ds lA lc ls who seq 3 (n : Int) cb cc key text S br bg bd bl hlen _ hS1 hq1 h)
  . have e : Qc9 wi le ke (KC.p (⟨rA, rc, rs, mA, mc, ms, gA, gc, gs, time, dA, dc, ds, lA, lc, ls⟩ : KC)) (⟨who, seq, 9, (n : Int), cb, cc, key, text⟩ : Cq) = ({ KC.p (⟨rA, rc, rs, mA, mc, ms, gA, gc, gs, time, dA, dc, ds, lA, lc, ls⟩ : KC) with rs := (rs.map RC.p).set n ⟨(Items.trimF nt le ke ym.length st ym).1, nt, (Items.trimF nt le ke ym.length st ym).2⟩ }, noAn 0 (Items.trimF nt le ke ym.length st ym).1) := by
      unfold Qc9
      simp only [hQ]
      rw [if_neg (by decide), if_neg (by decide), if_neg (by decide)]
      first | rw [if_pos rfl] | rw [if_pos trivial]
      rfl
    rw [e]
    exact l6Row_trim ro wi le ke rA rc rs mA mc ms gA gc gs time dA dc ds lA lc ls who seq cb cc n key text S br bg bd bl w hS hq hn (by omega) st nt yA yc ym hy _ _ _ (fun W hA => Items.specRowTrim_yes st nt le ke hle.1 (by omega) hke yA yc ym (by omega) (fun x hx => by have := hri.2.1 x hx; omega) hri.2.2 hrb W hA)
  . have e : Qc9 wi le ke (KC.p (⟨rA, rc, rs, mA, mc, ms, gA, gc, gs, time, dA, dc, ds, lA, lc, ls⟩ : KC)) (⟨who, seq, 10, (n : Int), cb, cc, key, text⟩ : Cq) = ({ KC.p (⟨rA, rc, rs, mA, mc, ms, gA, gc, gs, time, dA, dc, ds, lA, lc, ls⟩ : KC) with rs := (rs.map RC.p).set n ⟨st, nt, Items.packL st nt le ym⟩ }, noAn 0 st) := by
      unfold Qc9
      simp only [hQ]
      rw [if_neg (by decide), if_neg (by decide), if_neg (by decide), if_neg (by decide)]
      rfl
    rw [e]
    refine l6Row_pack ro wi le ke rA rc rs mA mc ms gA gc gs time dA dc ds lA lc ls who seq cb cc n key text S br bg bd bl w hS hq hn (by omega) st nt yA yc ym hy _ _ _ (fun W hA => ?_)
    have hp : Items.packB st nt le ym = true := by unfold Items.packB; rw [hrb]; simp [hle.1]
    have h := Items.specPack_yes st nt le yA yc ym (by omega) (fun x hx => by have := hri.2.1 x hx; omega) hri.2.2 hp W hA
    have e2 : Items.packL st nt le ym = Items.packF (IntKind.i64.wrap (nt - 1)) le ym := by unfold Items.packL; rw [if_pos hp]
    rw [e2]
    exact h
theorem newDo_any (R N : Nat) (hN : N <= 1000) (hR : 1 <= R /\ R <= 4) (ro wi le ke : Int) (hro : ro = R) (hw : 1 <= wi /\ wi <= 5) (hle : 1 <= le /\ le <= 100) (hke : 0 <= ke) (rA : Option Addr) (rc : Nat) (rs : List RC) (mA : Option Addr) (mc : Nat) (ms : List MC) (gA : Option Addr) (gc : Nat) (gs : List GC) (time : Int) (dA : Option Addr) (dc : Nat) (ds : List Int) (lA : Option Addr) (lc : Nat) (ls : List An) (who seq op ca cb cc : Int) (key text : ByteArray) (hc : CqR (⟨who, seq, op, ca, cb, cc, key, text⟩ : Cq)) (S : Nat -> Prop) (br bg bd bl : Nat) (w : World) (hS : ∀ b, S b -> b < w.heap.size) (hq : KQ w (⟨rA, rc, rs, mA, mc, ms, gA, gc, gs, time, dA, dc, ds, lA, lc, ls⟩ : KC) S br bg bd bl) (hk : Kin R N (KC.p (⟨rA, rc, rs, mA, mc, ms, gA, gc, gs, time, dA, dc, ds, lA, lc, ls⟩ : KC))) (hcap : (∀ g ∈ gs, (g.m.length <= g.c1 /\ g.c1 <= 9223372036854775807) /\ (g.b.length <= g.c2 /\ g.c2 <= 9223372036854775807))) :
 Calls Tryz.prog 86 #[.agg (Qan ro wi le ke), .agg (Qaa rA rs.length rc mA ms.length mc gA gs.length gc time dA ds.length dc lA ls.length lc), .agg (Qad who seq op ca cb cc key text)] w fun e w' => Qbu S w w' e (Qcq ro wi le ke (KC.p (⟨rA, rc, rs, mA, mc, ms, gA, gc, gs, time, dA, dc, ds, lA, lc, ls⟩ : KC)) (⟨who, seq, op, ca, cb, cc, key, text⟩ : Cq)).1 (Qcq ro wi le ke (KC.p (⟨rA, rc, rs, mA, mc, ms, gA, gc, gs, time, dA, dc, ds, lA, lc, ls⟩ : KC)) (⟨who, seq, op, ca, cb, cc, key, text⟩ : Cq)).2 := by
 have hlen := hk.len hN hR
 have hca := hc.a
 have ht := hk.t
 unfold In2 at hca ht
 simp only at hca
 have hq1 := hq.below (Qa2 ro wi le ke rA rc rs mA mc ms gA gc gs time dA dc ds lA lc ls who seq op ca cb cc key text S w hS).2.2
 have hS1 : ∀ b, S b -> b < (((((w.alloc (.cells (Qan ro wi le ke) 84)).alloc (.cells (Qaa rA rs.length rc mA ms.length mc gA gs.length gc time dA ds.length dc lA ls.length lc) 90)).alloc (.cells (Qad who seq op ca cb cc key text) 105)).alloc (.cells Qab 90)).alloc (.cells Qai 130)).heap.size := fun b hb => Nat.lt_of_lt_of_le (hS b hb) (Qa2 ro wi le ke rA rc rs mA mc ms gA gc gs time dA dc ds lA lc ls who seq op ca cb cc key text S w hS).2.2.size
 by_cases h8 : op = 8
 . subst h8
   have e : Qcq ro wi le ke (KC.p (⟨rA, rc, rs, mA, mc, ms, gA, gc, gs, time, dA, dc, ds, lA, lc, ls⟩ : KC)) (⟨who, seq, 8, ca, cb, cc, key, text⟩ : Cq) = ({ KC.p (⟨rA, rc, rs, mA, mc, ms, gA, gc, gs, time, dA, dc, ds, lA, lc, ls⟩ : KC) with time := min 100000 (time + ca), gs := (gs.map GC.p).map (tkP (min 100000 (time + ca))) }, noAn 0 (min 100000 (time + ca))) := by
    unfold Qcq
    rw [if_pos rfl]
    rfl
   rw [e]
   exact l6New_tick ro wi le ke rA rc rs mA mc ms gA gc gs time dA dc ds lA lc ls who seq ca cb cc key text S br bg bd bl w hS hq (by have := hlen.gl; simp only at this; omega) ht (by omega) (fun y hy => by have h := hlen.gi y hy; exact ⟨by omega, by omega, by omega, h.2.2.2.1, h.2.2.2.2.2.1⟩)
 . cases hin : inB op 4 7
   . by_cases hr : ro <= ca
     . have e : Qcq ro wi le ke (KC.p (⟨rA, rc, rs, mA, mc, ms, gA, gc, gs, time, dA, dc, ds, lA, lc, ls⟩ : KC)) (⟨who, seq, op, ca, cb, cc, key, text⟩ : Cq) = (KC.p (⟨rA, rc, rs, mA, mc, ms, gA, gc, gs, time, dA, dc, ds, lA, lc, ls⟩ : KC), noAn 5 0) := by
        unfold Qcq
        rw [if_neg h8, if_neg (by simp only [hin]; decide), if_pos hr]
       rw [e]
       exact Qim ro wi le ke rA rc rs mA mc ms gA gc gs time dA dc ds lA lc ls who seq op ca cb cc key text S br bg bd bl w hS hq h8 hin hr
     . have e : Qcq ro wi le ke (KC.p (⟨rA, rc, rs, mA, mc, ms, gA, gc, gs, time, dA, dc, ds, lA, lc, ls⟩ : KC)) (⟨who, seq, op, ca, cb, cc, key, text⟩ : Cq) = Qc9 wi le ke (KC.p (⟨rA, rc, rs, mA, mc, ms, gA, gc, gs, time, dA, dc, ds, lA, lc, ls⟩ : KC)) (⟨who, seq, op, ca, cb, cc, key, text⟩ : Cq) := by
        unfold Qcq
        rw [if_neg h8, if_neg (by simp only [hin]; decide), if_neg hr]
       rw [e]
       exact l6New_row ro wi le ke rA rc rs mA mc ms gA gc gs time dA dc ds lA lc ls who seq op ca cb cc key text S w hS _ _ h8 hin hr (rowDo_any R N hN hR ro wi le ke hro hw hle hke rA rc rs mA mc ms gA gc gs time dA dc ds lA lc ls who seq op ca cb cc key text hc S br bg bd bl _ hS1 hq1 hk hin h8 hr)
   . by_cases hr : 2 <= ca
     . have e : Qcq ro wi le ke (KC.p (⟨rA, rc, rs, mA, mc, ms, gA, gc, gs, time, dA, dc, ds, lA, lc, ls⟩ : KC)) (⟨who, seq, op, ca, cb, cc, key, text⟩ : Cq) = (KC.p (⟨rA, rc, rs, mA, mc, ms, gA, gc, gs, time, dA, dc, ds, lA, lc, ls⟩ : KC), noAn 9 0) := by
        unfold Qcq
        rw [if_neg h8, if_pos hin, if_pos hr]
       rw [e]
       exact Qin ro wi le ke rA rc rs mA mc ms gA gc gs time dA dc ds lA lc ls who seq op ca cb cc key text S br bg bd bl w hS hq h8 hin hr
     . have e : Qcq ro wi le ke (KC.p (⟨rA, rc, rs, mA, mc, ms, gA, gc, gs, time, dA, dc, ds, lA, lc, ls⟩ : KC)) (⟨who, seq, op, ca, cb, cc, key, text⟩ : Cq) = Qd4 ro (KC.p (⟨rA, rc, rs, mA, mc, ms, gA, gc, gs, time, dA, dc, ds, lA, lc, ls⟩ : KC)) (⟨who, seq, op, ca, cb, cc, key, text⟩ : Cq) := by
        unfold Qcq
        rw [if_neg h8, if_pos hin, if_neg hr]
       rw [e]
       exact l6New_grp ro wi le ke rA rc rs mA mc ms gA gc gs time dA dc ds lA lc ls who seq op ca cb cc key text S w hS _ _ h8 hin hr (grpDo_any R N hN hR ro wi le ke hro hw hle hke rA rc rs mA mc ms gA gc gs time dA dc ds lA lc ls who seq op ca cb cc key text hc S br bg bd bl _ hS1 hq1 hk hcap hin hr)
theorem doQ_any (R N : Nat) (hN : N <= 1000) (hR : 1 <= R /\ R <= 4) (ro wi le ke : Int) (hro : ro = R) (hw : 1 <= wi /\ wi <= 5) (hle : 1 <= le /\ le <= 100) (hke : 0 <= ke) (rA : Option Addr) (rc : Nat) (rs : List RC) (mA : Option Addr) (mc : Nat) (ms : List MC) (gA : Option Addr) (gc : Nat) (gs : List GC) (time : Int) (dA : Option Addr) (dc : Nat) (ds : List Int) (lA : Option Addr) (lc : Nat) (ls : List An) (who seq op ca cb cc : Int) (key text : ByteArray) (hc : who < 0 ∨ CqR (⟨who, seq, op, ca, cb, cc, key, text⟩ : Cq)) (w : World) (hx : KAt w (⟨rA, rc, rs, mA, mc, ms, gA, gc, gs, time, dA, dc, ds, lA, lc, ls⟩ : KC)) (hk : Kin R N (KC.p (⟨rA, rc, rs, mA, mc, ms, gA, gc, gs, time, dA, dc, ds, lA, lc, ls⟩ : KC))) :
 Calls Tryz.prog 80 #[.agg (Qan ro wi le ke), .agg (Qaa rA rs.length rc mA ms.length mc gA gs.length gc time dA ds.length dc lA ls.length lc), .agg (Qad who seq op ca cb cc key text)] w fun e w' => Qbu (fun _ => False) w w' e (doQ ro wi le ke (KC.p (⟨rA, rc, rs, mA, mc, ms, gA, gc, gs, time, dA, dc, ds, lA, lc, ls⟩ : KC)) (⟨who, seq, op, ca, cb, cc, key, text⟩ : Cq)).1 (doQ ro wi le ke (KC.p (⟨rA, rc, rs, mA, mc, ms, gA, gc, gs, time, dA, dc, ds, lA, lc, ls⟩ : KC)) (⟨who, seq, op, ca, cb, cc, key, text⟩ : Cq)).2 := by
 have hlen := hk.len hN hR
 by_cases hw0 : who < 0
 . have e : doQ ro wi le ke (KC.p (⟨rA, rc, rs, mA, mc, ms, gA, gc, gs, time, dA, dc, ds, lA, lc, ls⟩ : KC)) (⟨who, seq, op, ca, cb, cc, key, text⟩ : Cq) = (KC.p (⟨rA, rc, rs, mA, mc, ms, gA, gc, gs, time, dA, dc, ds, lA, lc, ls⟩ : KC), noAn 0 0) := by unfold doQ; rw [if_pos hw0]
   rw [e]
   exact l6Do_none ro wi le ke rA rc rs mA mc ms gA gc gs time dA dc ds lA lc ls who seq op ca cb cc key text hlen w hx hw0
 . have hc : CqR (⟨who, seq, op, ca, cb, cc, key, text⟩ : Cq) := hc.resolve_left hw0
   have hwho := hc.who
   unfold In2 at hwho
   simp only at hwho
   obtain ⟨q, rfl⟩ : ∃ q : Nat, who = q := ⟨who.toNat, by omega⟩
   have hq4 : q < 4 := by omega
   by_cases hs : seq <= ds.getD q 0
   . have e : doQ ro wi le ke (KC.p (⟨rA, rc, rs, mA, mc, ms, gA, gc, gs, time, dA, dc, ds, lA, lc, ls⟩ : KC)) (⟨(q : Int), seq, op, ca, cb, cc, key, text⟩ : Cq) = (KC.p (⟨rA, rc, rs, mA, mc, ms, gA, gc, gs, time, dA, dc, ds, lA, lc, ls⟩ : KC), ls.getD q zAn) := by unfold doQ; rw [if_neg hw0]; exact if_pos hs
     rw [e]
     exact l6Do_old ro wi le ke rA rc rs mA mc ms gA gc gs time dA dc ds lA lc ls q hq4 seq op ca cb cc key text hlen w hx hs
   . obtain ⟨g1, g2⟩ := newDo_R (ke := ke) hk hro hw hle hc
     have e : doQ ro wi le ke (KC.p (⟨rA, rc, rs, mA, mc, ms, gA, gc, gs, time, dA, dc, ds, lA, lc, ls⟩ : KC)) (⟨(q : Int), seq, op, ca, cb, cc, key, text⟩ : Cq) = ({ (Qcq ro wi le ke (KC.p (⟨rA, rc, rs, mA, mc, ms, gA, gc, gs, time, dA, dc, ds, lA, lc, ls⟩ : KC)) ⟨(q : Int), seq, op, ca, cb, cc, key, text⟩).1 with ds := (Qcq ro wi le ke (KC.p (⟨rA, rc, rs, mA, mc, ms, gA, gc, gs, time, dA, dc, ds, lA, lc, ls⟩ : KC)) ⟨(q : Int), seq, op, ca, cb, cc, key, text⟩).1.ds.set q seq, ls := (Qcq ro wi le ke (KC.p (⟨rA, rc, rs, mA, mc, ms, gA, gc, gs, time, dA, dc, ds, lA, lc, ls⟩ : KC)) ⟨(q : Int), seq, op, ca, cb, cc, key, text⟩).1.ls.set q (Qcq ro wi le ke (KC.p (⟨rA, rc, rs, mA, mc, ms, gA, gc, gs, time, dA, dc, ds, lA, lc, ls⟩ : KC)) ⟨(q : Int), seq, op, ca, cb, cc, key, text⟩).2 }, (Qcq ro wi le ke (KC.p (⟨rA, rc, rs, mA, mc, ms, gA, gc, gs, time, dA, dc, ds, lA, lc, ls⟩ : KC)) ⟨(q : Int), seq, op, ca, cb, cc, key, text⟩).2) := by
      unfold doQ
      rw [if_neg hw0]
      exact if_neg hs
     rw [e]
     refine l6Do_new ro wi le ke rA rc rs mA mc ms gA gc gs time dA dc ds lA lc ls q hq4 seq op ca cb cc key text hlen w hx hs _ _ _ _ _ g1.dl g1.ll ?_
     intro rA9 rc9 rs9 mA9 mc9 ms9 gA9 gc9 gs9 time9 dA9 dc9 ds9 lA9 lc9 ls9 br bg bd bl S W hp hq9 hcap9 hS9
     have hk9 : Kin R N (KC.p (⟨rA9, rc9, rs9, mA9, mc9, ms9, gA9, gc9, gs9, time9, dA9, dc9, ds9, lA9, lc9, ls9⟩ : KC)) := by rw [hp]; exact hk
     have h := newDo_any R N hN hR ro wi le ke hro hw hle hke rA9 rc9 rs9 mA9 mc9 ms9 gA9 gc9 gs9 time9 dA9 dc9 ds9 lA9 lc9 ls9 (q : Int) seq op ca cb cc key text hc S br bg bd bl W hS9 hq9 hk9 hcap9
     rw [hp] at h
     exact h
end Go.Proofs.YtlniljigeemnoaaGreat.Gen
