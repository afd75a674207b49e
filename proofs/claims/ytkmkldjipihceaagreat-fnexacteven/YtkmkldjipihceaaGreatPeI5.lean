/-
  The program's PeerOk at this seat. No condition but that its lists have at most 1048576 records, and what it says of RpcOk.
-/
import Derived.Test.YtkmkldjipihceaaGreatPeI4
import Derived.Test.YtkmkldjipihceaaGreatPeN
import Derived.Test.YtkmkldjipihceaaGreatPeS
import Derived.Test.YtkmkldjipihceaaGreatWoV
set_option linter.unusedVariables false
set_option linter.unusedSimpArgs false
set_option maxRecDepth 100000
set_option maxHeartbeats 8000000
set_option maxRecDepth 100000
set_option maxHeartbeats 8000000
namespace Go.Proofs.YtkmkldjipihceaaGreat.Gen
open ChangeShapes WideShapes ChangeAt RowKit Joins Deep Base
theorem Qex (rpcF : RpP -> Bool) (ro wi le ke id te vo base bt role com su size : Int) (A vA nA pA dA hA0 : Option Addr) (cap vn vc nn nc pn pc dc hc : Nat) (l : List En) (ns ps : List Int) (db : List UInt8) (hs : List RpC) (x y : KC)
 (hl : l.length <= 1048576) (hr : ∀ z ∈ l, z.fit) (hnn : nn = ns.length) (hpn : pn = ps.length) (hvl : vn <= 1048576) (hnl : nn <= 1048576) (hpl : pn <= 1048576) (hdl : db.length <= 9223372036854775807) (hhl : hs.length <= 1048576) (hax : KAsk x) (hay : KAsk y) (w : World) (hA : At w A l) (hx : KAt w x) (hN : At w nA ns) (hP : At w pA ps) (hy : KAt w y) (hH : At w hA0 hs)
 (hR : ∀ z ∈ hs, ∀ W : World, Below w.heap.size w W -> Calls Tryz.prog 53 #[.agg (Cel.cs z).toArray, .int .i64 size] W fun e w' => e = .returned (.bool (rpcF z.p)) /\ Below W.heap.size W w') :
 Calls Tryz.prog 90 #[.agg (Qag ro wi le ke), .agg (Qaa id te vo base bt A l.length cap x.rA x.rs.length x.rc x.mA x.ms.length x.mc x.gA x.gs.length x.gc x.time x.dA x.ds.length x.dc x.lA x.ls.length x.lc role vA vn vc nA nn nc pA pn pc com y.rA y.rs.length y.rc y.mA y.ms.length y.mc y.gA y.gs.length y.gc y.time y.dA y.ds.length y.dc y.lA y.ls.length y.lc dA db.length dc su hA0 hs.length hc), .int .i64 size] w fun e w' => e = .returned (.bool (peerB rpcF ro wi le ke id te vo base bt l x role vn nn pn ns ps com y su db.length hs size)) /\ Below w.heap.size w w' := by
 obtain ⟨sc, hsc⟩ : ∃ z : Array Value, z = (Qag ro wi le ke) := ⟨_, rfl⟩
 obtain ⟨pe, hpe⟩ : ∃ z : Array Value, z = (Qaa id te vo base bt A l.length cap x.rA x.rs.length x.rc x.mA x.ms.length x.mc x.gA x.gs.length x.gc x.time x.dA x.ds.length x.dc x.lA x.ls.length x.lc role vA vn vc nA nn nc pA pn pc com y.rA y.rs.length y.rc y.mA y.ms.length y.mc y.gA y.gs.length y.gc y.time y.dA y.ds.length y.dc y.lA y.ls.length y.lc dA db.length dc su hA0 hs.length hc) := ⟨_, rfl⟩
 obtain ⟨nd, hnd⟩ : ∃ z : Array Value, z = (Qac te vo base bt A l.length cap x.rA x.rs.length x.rc x.mA x.ms.length x.mc x.gA x.gs.length x.gc x.time x.dA x.ds.length x.dc x.lA x.ls.length x.lc ro wi le ke size id role vA vn vc nA nn nc pA pn pc com y.rA y.rs.length y.rc y.mA y.ms.length y.mc y.gA y.gs.length y.gc y.time y.dA y.ds.length y.dc y.lA y.ls.length y.lc dA db.length dc su hA0 hs.length hc) := ⟨_, rfl⟩
 obtain ⟨bb, hbb⟩ : ∃ b, peerB rpcF ro wi le ke id te vo base bt l x role vn nn pn ns ps com y su db.length hs size = b := ⟨_, rfl⟩
 have E1 : Hid (∀ W : World, Calls Tryz.prog 125 #[.agg sc, .agg pe, .int .i64 size] W fun e w' => e = .returned (.agg nd) /\ Below W.heap.size W w') := fun W => by rw [hsc, hpe, hnd]; exact nodeOf_any ro wi le ke id te vo base bt role com su size A vA nA pA dA hA0 cap vn vc nn nc pn pc dc hc l db hs x y W
 have E2 : Hid (∀ W : World, Below w.heap.size w W -> Calls Tryz.prog 126 #[.agg nd] W fun e w' => e = .returned (.bool bb) /\ Below W.heap.size W w') := fun W g => by rw [hnd, ← hbb]; exact Qfz rpcF ro wi le ke id te vo base bt role com su size A vA nA pA dA hA0 cap vn vc nn nc pn pc dc hc l ns ps db hs x y hl hr hnn hpn hvl hnl hpl hdl hhl hax hay W (hA.below g) (hx.below g) (hN.below g) (hP.below g) (hy.below g) (hH.below g) (fun z hz V g' => hR z hz V (via0 g' g))
 have I1 : Hid ((Tryz.prog.info? 33).map (·.size) = some sc.size) := by show _ = _; rw [hsc]; kernel_rfl
 have I2 : Hid ((Tryz.prog.info? 67).map (·.size) = some pe.size) := by show _ = _; rw [hpe]; kernel_rfl
 have P1 : Hid (Blk ((w.alloc (.cells sc 33)).alloc (.cells pe 67)) w.heap.size 33 sc) := (Blk.new w _ _).alloc _
 have P2 : Hid (Blk ((w.alloc (.cells sc 33)).alloc (.cells pe 67)) (w.heap.size + 1) 67 pe) := by show Blk _ _ _ _; have := Blk.new (w.alloc (.cells sc 33)) 67 pe; rwa [World.size_alloc] at this
 have B0 := hidP (show Below w.heap.size w ((w.alloc (.cells sc 33)).alloc (.cells pe 67)) from Qab (Qab (Below.refl _ _) _) _)
 rw [hbb]
 clear hA hr hx hN hP hy hH hR hax hay hbb hnd hnn hpn
 go_enter Tryz.func90, Tryz.ntmps90
 go_upto_region 1 with fail
 simp only [← hsc, ← hpe]
 clear hsc hpe
 refine wp_region_lit ?_
 refine Qau rfl 33 _ rfl (b := w.heap.size) rfl P1.out Tryz.underlying33 I1.out ?_
 refine Qau rfl 67 _ rfl (b := w.heap.size + 1) rfl P2.out Tryz.underlying67 I2.out ?_
 go_wp2_with fail
 refine (E1.out _).mono ?_
 rintro e w1 ⟨rfl, g1⟩
 go_wp2_with fail
 refine (E2.out _ (via0 g1 B0.out)).mono ?_
 rintro e w2 ⟨rfl, g2⟩
 go_wp2
 go_ret
 exact ⟨rfl, via0 g2 (via0 g1 B0.out)⟩
def okQ (ro wi le ke size : Int) (p : PC) : Bool := peerB (fun z => rpcB size z.kind z.frm z.too z.term z.index z.iterm z.commit z.l z.snap) ro wi le ke p.id p.te p.vo p.base p.bt p.l p.x p.role p.vs.length p.ns.length p.ps.length p.ns p.ps p.com p.y p.su p.db.length p.hs size
theorem heldF_p (f : RpP -> Bool) (id : Int) (l : List RpC) : Qdc f id l = (l.map RpC.p).all (fun z => f z && z.frm == id) := by
 unfold Qdc; rw [List.all_map]; rfl
theorem okQ_same {q p : PC} (s : SameP q p) (ro wi le ke size : Int) : okQ ro wi le ke size q = okQ ro wi le ke size p := by
 have hl := Qcd s.hs
 unfold okQ peerB
 rw [s.id, s.te, s.vo, s.base, s.bt, s.l, s.role, s.vs, s.ns, s.ps, s.com, s.su, s.db]
 rw [show Qd2 ro wi le ke p.te p.vo p.base p.bt p.l q.x = Qd2 ro wi le ke p.te p.vo p.base p.bt p.l p.x by simp only [Qd2, keepB_p s.x], keepB_p s.y, heldF_p, heldF_p, s.hs, hl]
structure QAsk (q : PC) : Prop where
  f : PFit q
  l : ∀ z ∈ q.l, z.fit
  x : KAsk q.x
  y : KAsk q.y
  h : ∀ z ∈ q.hs, (∀ y ∈ z.l, y.fit) /\ z.snap.size <= 9223372036854775807
theorem QAsk.of {p : PC} (hr : PRight p) (hf : PFit p) : QAsk p := ⟨hf, fun z hz => (hr.lr z hz).fit, ⟨hf.xf, hr.xr.rr, hr.xr.lr⟩, ⟨hf.yf, hr.yr.rr, hr.yr.lr⟩, fun z hz => ⟨fun y hy => ((hr.hr z hz).2.1 y hy).fit, (hr.hr z hz).2.2⟩⟩
theorem QAsk.same {q p : PC} (h : QAsk p) (s : SameP q p) : QAsk q := by
 refine ⟨h.f.same s, s.l ▸ h.l, ask_p s.x h.x, ask_p s.y h.y, fun z hz => ?_⟩
 have h1 : z.p ∈ p.hs.map RpC.p := s.hs ▸ List.mem_map_of_mem hz
 obtain ⟨y, hy, e⟩ := List.mem_map.1 h1
 have e1 : y.l = z.l := congrArg RpP.l e
 have e2 : y.snap = z.snap := congrArg RpP.snap e
 rw [← e1, ← e2]; exact h.h y hy
theorem specOk_any {q : PC} (h : QAsk q) (ro wi le ke size : Int) (hs : I64 size) (W : World) (g : PAt W q) :
 Calls Tryz.prog 41 #[.agg (Qag ro wi le ke), .agg (Qaw q), .int .i64 size] W fun e w' => e = .returned (.bool (okQ ro wi le ke size q)) /\ Below W.heap.size W w' := by
 have f := h.f
 exact Qen (fun z => rpcB size z.kind z.frm z.too z.term z.index z.iterm z.commit z.l z.snap) ro wi le ke q.id q.te q.vo q.base q.bt q.role q.com q.su size q.A q.vA q.nA q.pA q.dA q.hA q.cap q.vs.length q.vc q.ns.length q.nc q.ps.length q.pc q.dc q.hc q.l q.ns q.ps q.db q.hs q.x q.y
  f.ll h.l rfl rfl f.vl f.nl f.pl (by have := f.dl; omega) f.hl h.x h.y hs W g.la g.xa g.na g.pa g.ya g.ha
  (fun z hz V gv => Qdf size z.kind z.frm z.too z.term z.index z.iterm z.commit z.ok z.snap (h.h z hz).2 z.A z.cap z.l (by have := f.hi z hz; omega) (h.h z hz).1 V ((g.he z hz).below gv))
theorem implOk_any {q : PC} (h : QAsk q) (ro wi le ke size : Int) (W : World) (g : PAt W q) :
 Calls Tryz.prog 90 #[.agg (Qag ro wi le ke), .agg (Qaw q), .int .i64 size] W fun e w' => e = .returned (.bool (okQ ro wi le ke size q)) /\ Below W.heap.size W w' := by
 have f := h.f
 exact Qex (fun z => rpcB size z.kind z.frm z.too z.term z.index z.iterm z.commit z.l z.snap) ro wi le ke q.id q.te q.vo q.base q.bt q.role q.com q.su size q.A q.vA q.nA q.pA q.dA q.hA q.cap q.vs.length q.vc q.ns.length q.nc q.ps.length q.pc q.dc q.hc q.l q.ns q.ps q.db q.hs q.x q.y
  f.ll h.l rfl rfl f.vl f.nl f.pl (by have := f.dl; omega) f.hl h.x h.y W g.la g.xa g.na g.pa g.ya g.ha
  (fun z hz V gv => Qdk size z.kind z.frm z.too z.term z.index z.iterm z.commit z.ok z.snap (h.h z hz).2 z.A z.cap z.l (by have := f.hi z hz; omega) (h.h z hz).1 V ((g.he z hz).below gv))
def Qbt (f : PC -> Bool) : Int -> List PC -> Bool
  | _, [] => true
  | i, x :: l => (decide (x.id = i) && f x) && Qbt f (i + 1) l
theorem Qfm (f : PC -> Bool) (l : List PC) (n : Nat) (h : n < l.length) : Qbt f (n : Int) (l.drop n) = ((decide (l[n].id = (n : Int)) && f l[n]) && Qbt f ((n + 1 : Nat) : Int) (l.drop (n + 1))) := by
 rw [List.drop_eq_getElem_cons h]; rfl
theorem Qfk {f g : PC -> Bool} (hfg : ∀ q p, SameP q p -> f q = g p) : ∀ (i : Int) (qs ps : List PC), SameN qs ps -> Qbt f i qs = Qbt g i ps
 | _, [], [], _ => rfl
 | _, [], _ :: _, h => by have := h.1; simp at this
 | _, _ :: _, [], h => by have := h.1; simp at this
 | i, q :: qs, p :: ps, h => by
  have h0 := h.2 0 (by simp) (by simp)
  simp only [List.getElem_cons_zero] at h0
  have ht : SameN qs ps := ⟨by have := h.1; simpa using this, fun k a b => by have := h.2 (k + 1) (by simpa using a) (by simpa using b); simpa using this⟩
  simp only [Qbt, h0.id, hfg q p h0, Qfk hfg (i + 1) qs ps ht]
def Qd1 (x : Co) : Bool := decide (x.who = 0 /\ x.seq = 0 /\ x.op = 0 /\ x.a = 0 /\ x.b = 0 /\ x.c = 0 /\ x.key.toList = [] /\ x.text.toList = [])
def okCo (x : Co) : Bool := CmdOk.okB x.who x.seq x.op x.a x.b x.c x.key x.text
def saidB (i : Int) (x : Co) : Bool := Qd1 x || (okCo x && decide (x.who = i))
def Qc6 : Int -> List Co -> Bool
  | _, [] => true
  | i, x :: l => saidB i x && Qc6 (i + 1) l
theorem Qgs (l : List Co) (n : Nat) (h : n < l.length) : Qc6 (n : Int) (l.drop n) = (saidB (n : Int) l[n] && Qc6 ((n + 1 : Nat) : Int) (l.drop (n + 1))) := by
 rw [List.drop_eq_getElem_cons h]; rfl
def idxB (z : Int) : Bool := inB z 0 300
def Qbp (h : He) : Bool := inB h.who 0 3 && inB h.seq 1 100000 && inB h.frm 0 300 && inB h.at_ 0 300 && ansB h.code h.n h.key h.text
def rpP (size : Int) (z : RpP) : Bool := rpcB size z.kind z.frm z.too z.term z.index z.iterm z.commit z.l z.snap
def rpB (size : Int) (z : RpC) : Bool := rpP size z.p
theorem Qb2 {α : Type} (f : α -> Bool) (l : List α) (n : Nat) (h : n < l.length) : (l.drop n).all f = (f l[n] && (l.drop (n + 1)).all f) := by
 rw [List.drop_eq_getElem_cons h]; rfl
def Qcj (p : WC) : Bool := Qbt (fun x => okQ p.ro p.wi p.le p.ke p.size x) 0 p.ns && decide ((p.ns.length : Int) = p.size)
def Qcw (p : WC) : Bool := Qc6 0 p.ss && decide ((p.ss.length : Int) = 4)
def Qas (p : WC) : Bool := setB p.ro p.wi p.le p.ke && inB p.size 1 5 && Qcj p && decide ((p.ms.length : Int) <= 40) && p.ms.all (rpB p.size) && Qcw p && decide ((p.fs.length : Int) = 4) && p.fs.all idxB && decide ((p.hs.length : Int) <= 300) && p.hs.all Qbp && decide ((p.ds.length : Int) <= 300) && p.ds.all okCo
theorem Qhj {q p : WC} (s : SameW q p) : Qas q = Qas p := by
 have hm : q.ms.all (rpB p.size) = p.ms.all (rpB p.size) := by
  have h1 : ∀ l : List RpC, l.all (rpB p.size) = (l.map RpC.p).all (rpP p.size) := fun l => by rw [List.all_map]; rfl
  rw [h1, h1, s.ms]
 have hn : Qcj q = Qcj p := by
  unfold Qcj
  rw [s.ro, s.wi, s.le, s.ke, s.size, s.ns.1, Qfk (fun a b h => okQ_same h p.ro p.wi p.le p.ke p.size) 0 _ _ s.ns]
 have hs : Qcw q = Qcw p := by unfold Qcw; rw [s.ss]
 unfold Qas
 rw [hn, hs, s.ro, s.wi, s.le, s.ke, s.size, hm, Qcd s.ms, s.fs, s.hs, s.ds]
structure WAsk (p : WC) : Prop where
  f : WFit p
  n : ∀ x ∈ p.ns, QAsk x
  m : ∀ x ∈ p.ms, (∀ y ∈ x.l, y.fit) /\ x.snap.size <= 9223372036854775807
  s : ∀ x ∈ p.ss, x.fit
  h : ∀ x ∈ p.hs, x.fit
  d : ∀ x ∈ p.ds, x.fit
  z : I64 p.size
theorem WAsk.of {p : WC} (hr : WRight p) (hf : WFit p) (hz : I64 p.size) : WAsk p := ⟨hf, fun x hx => QAsk.of (hr.nr x hx) (hf.nf x hx), fun x hx => ⟨fun y hy => ((hr.mr x hx).2.1 y hy).fit, (hr.mr x hx).2.2⟩, hr.sr, hr.hr, hr.dr, hz⟩
theorem WAsk.same {q p : WC} (h : WAsk p) (s : SameW q p) : WAsk q := by
 refine ⟨h.f.same s, s.ns.all (fun q p k h => h.same k) h.n, fun z hz => ?_, s.ss ▸ h.s, s.hs ▸ h.h, s.ds ▸ h.d, s.size ▸ h.z⟩
 have h1 : z.p ∈ p.ms.map RpC.p := s.ms ▸ List.mem_map_of_mem hz
 obtain ⟨y, hy, e⟩ := List.mem_map.1 h1
 have e1 : y.l = z.l := congrArg RpP.l e
 have e2 : y.snap = z.snap := congrArg RpP.snap e
 rw [← e1, ← e2]; exact h.m y hy
theorem eqCz (x : Co) (w : World) : (Op.equalIn 10000 115 (.agg (Qan x.who x.seq x.op x.a x.b x.c x.key x.text)) (.agg Qc5)).run Tryz.prog w = .ok (Qd1 x) w := by
 have u3 := Tryz.underlying3
 have us := Tryz.underlying9
 have hS : Tryz.prog.underlying 115 = some (.struct (Tryz.prog.fieldsOf 115)) := by kernel_rfl
 rw [show (10000 : Nat) = 9999 + 1 from rfl, run_equalIn_agg w 9999 115 _ _ hS (by kernel_rfl)]
 simp only [Program.fieldsOf, Tryz.underlying115]
 go_simp
 unfold Qd1
 by_cases h1 : x.who = 0
 case neg => simp [h1]
 by_cases h2 : x.seq = 0
 case neg => simp [h1, h2]
 by_cases h3 : x.op = 0
 case neg => simp [h1, h2, h3]
 by_cases h4 : x.a = 0
 case neg => simp [h1, h2, h3, h4]
 by_cases h5 : x.b = 0
 case neg => simp [h1, h2, h3, h4, h5]
 by_cases h6 : x.c = 0
 case neg => simp [h1, h2, h3, h4, h5, h6]
 by_cases h7 : x.key.toList = []
 case neg => simp [h1, h2, h3, h4, h5, h6, h7]
 by_cases h8 : x.text.toList = []
 case neg => simp [h1, h2, h3, h4, h5, h6, h7, h8]
 simp [h1, h2, h3, h4, h5, h6, h7, h8]
theorem Qe7 {p : WC} (h : Qas p = true) : (p.ns.length : Int) = p.size := by
 unfold Qas Qcj at h
 simp only [Bool.and_eq_true, decide_eq_true_eq] at h
 omega
theorem Qfl {f : PC -> Bool} : ∀ (i : Int) (l : List PC), Qbt f i l = true -> ∀ x ∈ l, f x = true
 | _, [], _, x, hx => by simp at hx
 | i, y :: l, h, x, hx => by
  simp only [Qbt, Bool.and_eq_true] at h
  rcases List.mem_cons.1 hx with rfl | hx
  . exact h.1.2
  . exact Qfl (i + 1) l h.2 x hx
theorem world_ps {p : WC} (h : Qas p = true) : ∀ x ∈ p.ns, (x.ps.length : Int) = p.size := fun x hx => by
 unfold Qas Qcj at h
 simp only [Bool.and_eq_true, decide_eq_true_eq] at h
 have hn : Qbt (fun x => okQ p.ro p.wi p.le p.ke p.size x) 0 p.ns = true := by simp [h]
 have := Qfl 0 p.ns hn x hx
 unfold okQ peerB at this
 simp only [Bool.and_eq_true, decide_eq_true_eq] at this
 simp [this]
def teAt (l : List PC) (i : Int) : Int := match l[i.toNat]? with | some x => x.te | none => 0
theorem same_get {qs ps : List PC} (h : SameN qs ps) (k : Nat) : (qs[k]? = none /\ ps[k]? = none) ∨ ∃ a b, qs[k]? = some a /\ ps[k]? = some b /\ SameP a b := by
 by_cases hk : k < qs.length
 . have hk2 : k < ps.length := h.1 ▸ hk
   exact Or.inr ⟨_, _, List.getElem?_eq_getElem hk, List.getElem?_eq_getElem hk2, h.2 k hk hk2⟩
 . have hk2 : ¬ k < ps.length := h.1 ▸ hk
   exact Or.inl ⟨List.getElem?_eq_none (by omega), List.getElem?_eq_none (by omega)⟩
def allI (z : Int) (l : List Int) : Bool := l.all (fun x => decide (x = z))
def allC (z : Int) (l : List PC) : Bool := l.all (fun x => decide (x.com = z))
theorem allC_same {qs ps : List PC} (h : SameN qs ps) (z : Int) : allC z qs = allC z ps := by
 induction qs generalizing ps with
 | nil => cases ps with
  | nil => rfl
  | cons => have := h.1; simp at this
 | cons a qs ih => cases ps with
  | nil => have := h.1; simp at this
  | cons b ps =>
   have h0 := h.2 0 (by simp) (by simp)
   simp only [List.getElem_cons_zero] at h0
   have ht : SameN qs ps := ⟨by have := h.1; simpa using this, fun k a b => by have := h.2 (k + 1) (by simpa using a) (by simpa using b); simpa using this⟩
   have := ih ht
   unfold allC at this ⊢
   simp only [List.all_cons, this, h0.com]
def Qe3 (l : List PC) (x : PC) : Bool := decide (x.role = 2) && allI (Qbc x.base x.l) x.ps && allC x.com l
def Qcp (p : WC) (i : Int) : Bool := Qas p && inB i 0 (p.size - 1) && (match p.ns[i.toNat]? with | some x => Qe3 p.ns x | none => false)
theorem Qfo {q p : WC} (s : SameW q p) (i : Int) : Qcp q i = Qcp p i := by
 unfold Qcp
 rw [Qhj s, s.size]
 rcases same_get s.ns i.toNat with ⟨a, b⟩ | ⟨a, b, e1, e2, k⟩
 . rw [a, b]
 . rw [e1, e2]; simp only [Qe3, k.role, k.base, k.l, k.ps, k.com, allC_same s.ns]
theorem even_at {p : WC} {i : Int} (hw : Qas p = true) (hi : inB i 0 (p.size - 1) = true) : ∃ n : Nat, ∃ h : n < p.ns.length, i = (n : Int) /\ Qcp p i = Qe3 p.ns p.ns[n] := by
 have hz := Qe7 hw
 have h2 := hi
 unfold inB at h2
 simp only [decide_eq_true_eq] at h2
 have hl : i.toNat < p.ns.length := by omega
 refine ⟨i.toNat, hl, by omega, ?_⟩
 unfold Qcp
 rw [hw, hi, List.getElem?_eq_getElem hl]
 rfl
theorem Qhf (z : Int) (l : List Int) (n : Nat) (h : n < l.length) : allI z (l.drop n) = (decide (l[n] = z) && allI z (l.drop (n + 1))) := Qb2 (fun (x : Int) => decide (x = z)) l n h
theorem Qhg (z : Int) (l : List PC) (n : Nat) (h : n < l.length) : allC z (l.drop n) = (decide (l[n].com = z) && allC z (l.drop (n + 1))) := Qb2 (fun (x : PC) => decide (x.com = z)) l n h
end Go.Proofs.YtkmkldjipihceaaGreat.Gen
