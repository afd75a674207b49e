/-
  What WorldOk answers, by the content of a world alone. No condition.
-/
import Derived.Test.YtddijnmdeabjbaaGreatWoV
import Derived.Test.YtddijnmdeabjbaaGreatPeI5
set_option linter.unusedVariables false
set_option linter.unusedSimpArgs false
set_option maxRecDepth 100000
set_option maxHeartbeats 8000000
namespace Go.Proofs.YtddijnmdeabjbaaGreat.Gen
open ChangeShapes WideShapes ChangeAt RowKit Joins Deep Base
def Qbn (f : PC -> Bool) : Int -> List PC -> Bool
  | _, [] => true
  | i, x :: l => (decide (x.id = i) && f x) && Qbn f (i + 1) l
theorem Qew (f : PC -> Bool) (l : List PC) (n : Nat) (h : n < l.length) : Qbn f (n : Int) (l.drop n) = ((decide (l[n].id = (n : Int)) && f l[n]) && Qbn f ((n + 1 : Nat) : Int) (l.drop (n + 1))) := by
 rw [List.drop_eq_getElem_cons h]; rfl
theorem Qev {f g : PC -> Bool} (hfg : ∀ q p, SameP q p -> f q = g p) : ∀ (i : Int) (qs ps : List PC), SameN qs ps -> Qbn f i qs = Qbn g i ps
 | _, [], [], _ => rfl
 | _, [], _ :: _, h => by have := h.1; simp at this
 | _, _ :: _, [], h => by have := h.1; simp at this
 | i, q :: qs, p :: ps, h => by
  have h0 := h.2 0 (by simp) (by simp)
  simp only [List.getElem_cons_zero] at h0
  have ht : SameN qs ps := ⟨by have := h.1; simpa using this, fun k a b => by have := h.2 (k + 1) (by simpa using a) (by simpa using b); simpa using this⟩
  simp only [Qbn, h0.id, hfg q p h0, Qev hfg (i + 1) qs ps ht]
def Qdb (x : Co) : Bool := decide (x.who = 0 /\ x.seq = 0 /\ x.op = 0 /\ x.a = 0 /\ x.b = 0 /\ x.c = 0 /\ x.key.toList = [] /\ x.text.toList = [])
def okCo (x : Co) : Bool := CmdOk.okB x.who x.seq x.op x.a x.b x.c x.key x.text
def saidB (i : Int) (x : Co) : Bool := Qdb x || (okCo x && decide (x.who = i))
def Qcd : Int -> List Co -> Bool
  | _, [] => true
  | i, x :: l => saidB i x && Qcd (i + 1) l
theorem Qf0 (l : List Co) (n : Nat) (h : n < l.length) : Qcd (n : Int) (l.drop n) = (saidB (n : Int) l[n] && Qcd ((n + 1 : Nat) : Int) (l.drop (n + 1))) := by
 rw [List.drop_eq_getElem_cons h]; rfl
def idxB (z : Int) : Bool := inB z 0 300
def Qa6 (h : He) : Bool := inB h.who 0 3 && inB h.seq 1 100000 && inB h.frm 0 300 && inB h.at_ 0 300 && ansB h.code h.n h.key h.text
def rpP (size : Int) (z : RpP) : Bool := rpcB size z.kind z.frm z.too z.term z.index z.iterm z.commit z.l z.snap
def rpB (size : Int) (z : RpC) : Bool := rpP size z.p
theorem Qb0 {α : Type} (f : α -> Bool) (l : List α) (n : Nat) (h : n < l.length) : (l.drop n).all f = (f l[n] && (l.drop (n + 1)).all f) := by
 rw [List.drop_eq_getElem_cons h]; rfl
def Qb6 (p : WC) : Bool := Qbn (fun x => okQ p.ro p.wi p.le p.ke p.size x) 0 p.ns && decide ((p.ns.length : Int) = p.size)
def Qb3 (p : WC) : Bool := Qcd 0 p.ss && decide ((p.ss.length : Int) = 4)
def Qai (p : WC) : Bool := setB p.ro p.wi p.le p.ke && inB p.size 1 5 && Qb6 p && decide ((p.ms.length : Int) <= 40) && p.ms.all (rpB p.size) && Qb3 p && decide ((p.fs.length : Int) = 4) && p.fs.all idxB && decide ((p.hs.length : Int) <= 300) && p.hs.all Qa6 && decide ((p.ds.length : Int) <= 300) && p.ds.all okCo
theorem Qdi {q p : WC} (s : SameW q p) : Qai q = Qai p := by
 have hm : q.ms.all (rpB p.size) = p.ms.all (rpB p.size) := by
  have h1 : ∀ l : List RpC, l.all (rpB p.size) = (l.map RpC.p).all (rpP p.size) := fun l => by rw [List.all_map]; rfl
  rw [h1, h1, s.ms]
 have hn : Qb6 q = Qb6 p := by
  unfold Qb6
  rw [s.ro, s.wi, s.le, s.ke, s.size, s.ns.1, Qev (fun a b h => okQ_same h p.ro p.wi p.le p.ke p.size) 0 _ _ s.ns]
 have hs : Qb3 q = Qb3 p := by unfold Qb3; rw [s.ss]
 unfold Qai
 rw [hn, hs, s.ro, s.wi, s.le, s.ke, s.size, hm, Qbt s.ms, s.fs, s.hs, s.ds]
structure WAsk (p : WC) : Prop where
  f : WFit p
  n : ∀ x ∈ p.ns, QAsk x
  m : ∀ x ∈ p.ms, (∀ y ∈ x.l, y.fit) /\ x.snap.size <= 9223372036854775807
  s : ∀ x ∈ p.ss, x.fit
  h : ∀ x ∈ p.hs, x.fit
  d : ∀ x ∈ p.ds, x.fit
  z : I64 p.size
theorem WAsk.of {p : WC} (hr : WRight p) (hf : WFit p) (hz : I64 p.size) : WAsk p := ⟨hf, fun x hx => QAsk.of (hr.nr x hx) (hf.nf x hx), fun x hx => ⟨fun y hy => ((hr.mr x hx).2.1 y hy).fit, (hr.mr x hx).2.2⟩, hr.sr, hr.hr, hr.dr, hz⟩
theorem WAsk.same {q p : WC} (h : WAsk p) (s : SameW q p) : WAsk q := by
 refine ⟨h.f.same s, s.ns.all (fun q p k h => h.same k) h.n, fun z hz => ?_, s.ss ▸ h.s, s.hs ▸ h.h, s.ds ▸ h.d, s.size ▸ h.z⟩
 have h1 : z.p ∈ p.ms.map RpC.p := s.ms ▸ List.mem_map_of_mem hz
 obtain ⟨y, hy, e⟩ := List.mem_map.1 h1
 have e1 : y.l = z.l := congrArg RpP.l e
 have e2 : y.snap = z.snap := congrArg RpP.snap e
 rw [← e1, ← e2]; exact h.m y hy
theorem eqCz (x : Co) (w : World) : (Op.equalIn 10000 75 (.agg #[.int .i64 x.who, .int .i64 x.seq, .int .i64 x.op, .int .i64 x.a, .int .i64 x.b, .int .i64 x.c, .string x.key, .string x.text]) (.agg #[.int .i64 0, .int .i64 0, .int .i64 0, .int .i64 0, .int .i64 0, .int .i64 0, .string ⟨#[]⟩, .string ⟨#[]⟩])).run Tryz.prog w = .ok (Qdb x) w := by
 have u3 := Tryz.underlying3
 have us := Tryz.underlying9
 have hS : Tryz.prog.underlying 75 = some (.struct (Tryz.prog.fieldsOf 75)) := by kernel_rfl
 rw [show (10000 : Nat) = 9999 + 1 from rfl, run_equalIn_agg w 9999 75 _ _ hS (by kernel_rfl)]
 simp only [Program.fieldsOf, Tryz.underlying75]
 go_simp
 unfold Qdb
 by_cases h1 : x.who = 0
 case neg => simp [h1]
 by_cases h2 : x.seq = 0
 case neg => simp [h1, h2]
 by_cases h3 : x.op = 0
 case neg => simp [h1, h2, h3]
 by_cases h4 : x.a = 0
 case neg => simp [h1, h2, h3, h4]
 by_cases h5 : x.b = 0
 case neg => simp [h1, h2, h3, h4, h5]
 by_cases h6 : x.c = 0
 case neg => simp [h1, h2, h3, h4, h5, h6]
 by_cases h7 : x.key.toList = []
 case neg => simp [h1, h2, h3, h4, h5, h6, h7]
 by_cases h8 : x.text.toList = []
 case neg => simp [h1, h2, h3, h4, h5, h6, h7, h8]
 simp [h1, h2, h3, h4, h5, h6, h7, h8]
end Go.Proofs.YtddijnmdeabjbaaGreat.Gen
