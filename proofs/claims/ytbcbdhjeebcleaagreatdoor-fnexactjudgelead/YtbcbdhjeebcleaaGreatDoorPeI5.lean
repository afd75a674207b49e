/-
  The program's PeerOk at this seat. No condition but that its lists have at most 1048576 records, and what it says of RpcOk.
-/
import Derived.Test.YtbcbdhjeebcleaaGreatDoorPeI4
import Derived.Test.YtbcbdhjeebcleaaGreatDoorPeN
import Derived.Test.YtbcbdhjeebcleaaGreatDoorPeS
import Derived.Test.YtbcbdhjeebcleaaGreatDoorWoV
set_option linter.unusedVariables false
set_option linter.unusedSimpArgs false
set_option maxRecDepth 100000
set_option maxHeartbeats 8000000
namespace Go.Proofs.YtbcbdhjeebcleaaGreatDoor.Gen
open ChangeShapes WideShapes ChangeAt RowKit Joins Deep Base
theorem Qei (rpcF : RpP -> Bool) (ro wi le ke id te vo base bt role com su size : Int) (A vA nA pA dA hA0 : Option Addr) (cap vn vc nn nc pn pc dc hc : Nat) (l : List En) (ns ps : List Int) (db : List UInt8) (hs : List RpC) (x y : KC)
 (hl : l.length <= 1048576) (hr : ∀ z ∈ l, z.fit) (hnn : nn = ns.length) (hpn : pn = ps.length) (hvl : vn <= 1048576) (hnl : nn <= 1048576) (hpl : pn <= 1048576) (hdl : db.length <= 9223372036854775807) (hhl : hs.length <= 1048576) (hax : KAsk x) (hay : KAsk y) (w : World) (hA : At w A l) (hx : KAt w x) (hN : At w nA ns) (hP : At w pA ps) (hy : KAt w y) (hH : At w hA0 hs)
 (hR : ∀ z ∈ hs, ∀ W : World, Below w.heap.size w W -> Calls Tryz.prog 79 #[.agg (Cel.cs z).toArray, .int .i64 size] W fun e w' => e = .returned (.bool (rpcF z.p)) /\ Below W.heap.size W w') :
 Calls Tryz.prog 113 #[.agg #[.int .i64 ro, .int .i64 wi, .int .i64 le, .int .i64 ke], .agg #[.int .i64 id, .int .i64 te, .int .i64 vo, .int .i64 base, .int .i64 bt, .slice A l.length cap, .slice x.rA x.rs.length x.rc, .slice x.mA x.ms.length x.mc, .slice x.gA x.gs.length x.gc, .int .i64 x.time, .slice x.dA x.ds.length x.dc, .slice x.lA x.ls.length x.lc, .int .i64 role, .slice vA vn vc, .slice nA nn nc, .slice pA pn pc, .int .i64 com, .slice y.rA y.rs.length y.rc, .slice y.mA y.ms.length y.mc, .slice y.gA y.gs.length y.gc, .int .i64 y.time, .slice y.dA y.ds.length y.dc, .slice y.lA y.ls.length y.lc, .slice dA db.length dc, .int .i64 su, .slice hA0 hs.length hc], .int .i64 size] w fun e w' => e = .returned (.bool (peerB rpcF ro wi le ke id te vo base bt l x role vn nn pn ns ps com y su db.length hs size)) /\ Below w.heap.size w w' := by
 obtain ⟨sc, hsc⟩ : ∃ z : Array Value, z = #[.int .i64 ro, .int .i64 wi, .int .i64 le, .int .i64 ke] := ⟨_, rfl⟩
 obtain ⟨pe, hpe⟩ : ∃ z : Array Value, z = #[.int .i64 id, .int .i64 te, .int .i64 vo, .int .i64 base, .int .i64 bt, .slice A l.length cap, .slice x.rA x.rs.length x.rc, .slice x.mA x.ms.length x.mc, .slice x.gA x.gs.length x.gc, .int .i64 x.time, .slice x.dA x.ds.length x.dc, .slice x.lA x.ls.length x.lc, .int .i64 role, .slice vA vn vc, .slice nA nn nc, .slice pA pn pc, .int .i64 com, .slice y.rA y.rs.length y.rc, .slice y.mA y.ms.length y.mc, .slice y.gA y.gs.length y.gc, .int .i64 y.time, .slice y.dA y.ds.length y.dc, .slice y.lA y.ls.length y.lc, .slice dA db.length dc, .int .i64 su, .slice hA0 hs.length hc] := ⟨_, rfl⟩
 obtain ⟨nd, hnd⟩ : ∃ z : Array Value, z = #[.int .i64 te, .int .i64 vo, .int .i64 base, .int .i64 bt, .slice A l.length cap, .slice x.rA x.rs.length x.rc, .slice x.mA x.ms.length x.mc, .slice x.gA x.gs.length x.gc, .int .i64 x.time, .slice x.dA x.ds.length x.dc, .slice x.lA x.ls.length x.lc, .int .i64 ro, .int .i64 wi, .int .i64 le, .int .i64 ke, .int .i64 size, .int .i64 id, .int .i64 role, .slice vA vn vc, .slice nA nn nc, .slice pA pn pc, .int .i64 com, .slice y.rA y.rs.length y.rc, .slice y.mA y.ms.length y.mc, .slice y.gA y.gs.length y.gc, .int .i64 y.time, .slice y.dA y.ds.length y.dc, .slice y.lA y.ls.length y.lc, .slice dA db.length dc, .int .i64 su, .slice hA0 hs.length hc] := ⟨_, rfl⟩
 obtain ⟨bb, hbb⟩ : ∃ b, peerB rpcF ro wi le ke id te vo base bt l x role vn nn pn ns ps com y su db.length hs size = b := ⟨_, rfl⟩
 have E1 : Hid (∀ W : World, Calls Tryz.prog 139 #[.agg sc, .agg pe, .int .i64 size] W fun e w' => e = .returned (.agg nd) /\ Below W.heap.size W w') := fun W => by rw [hsc, hpe, hnd]; exact nodeOf_any ro wi le ke id te vo base bt role com su size A vA nA pA dA hA0 cap vn vc nn nc pn pc dc hc l db hs x y W
 have E2 : Hid (∀ W : World, Below w.heap.size w W -> Calls Tryz.prog 140 #[.agg nd] W fun e w' => e = .returned (.bool bb) /\ Below W.heap.size W w') := fun W g => by rw [hnd, ← hbb]; exact Qfl rpcF ro wi le ke id te vo base bt role com su size A vA nA pA dA hA0 cap vn vc nn nc pn pc dc hc l ns ps db hs x y hl hr hnn hpn hvl hnl hpl hdl hhl hax hay W (hA.below g) (hx.below g) (hN.below g) (hP.below g) (hy.below g) (hH.below g) (fun z hz V g' => hR z hz V (via0 g' g))
 have I1 : Hid ((Tryz.prog.info? 33).map (·.size) = some sc.size) := by show _ = _; rw [hsc]; kernel_rfl
 have I2 : Hid ((Tryz.prog.info? 64).map (·.size) = some pe.size) := by show _ = _; rw [hpe]; kernel_rfl
 have P1 : Hid (Blk ((w.alloc (.cells sc 33)).alloc (.cells pe 64)) w.heap.size 33 sc) := (Blk.new w _ _).alloc _
 have P2 : Hid (Blk ((w.alloc (.cells sc 33)).alloc (.cells pe 64)) (w.heap.size + 1) 64 pe) := by show Blk _ _ _ _; have := Blk.new (w.alloc (.cells sc 33)) 64 pe; rwa [World.size_alloc] at this
 have B0 := hidP (show Below w.heap.size w ((w.alloc (.cells sc 33)).alloc (.cells pe 64)) from Qaa (Qaa (Below.refl _ _) _) _)
 rw [hbb]
 clear hA hr hx hN hP hy hH hR hax hay hbb hnd hnn hpn
 go_enter Tryz.func113, Tryz.ntmps113
 go_upto_region 1 with fail
 simp only [← hsc, ← hpe]
 clear hsc hpe
 refine wp_region_lit ?_
 refine Qaj rfl 33 _ rfl (b := w.heap.size) rfl P1.out Tryz.underlying33 I1.out ?_
 refine Qaj rfl 64 _ rfl (b := w.heap.size + 1) rfl P2.out Tryz.underlying64 I2.out ?_
 go_wp2_with fail
 refine (E1.out _).mono ?_
 rintro e w1 ⟨rfl, g1⟩
 go_wp2_with fail
 refine (E2.out _ (via0 g1 B0.out)).mono ?_
 rintro e w2 ⟨rfl, g2⟩
 go_wp2
 go_ret
 exact ⟨rfl, via0 g2 (via0 g1 B0.out)⟩
end Go.Proofs.YtbcbdhjeebcleaaGreatDoor.Gen
namespace Go.Proofs.YtbcbdhjeebcleaaGreatDoor.Gen
open ChangeShapes WideShapes ChangeAt RowKit Joins Deep Base
def okQ (ro wi le ke size : Int) (p : PC) : Bool := peerB (fun z => rpcB size z.kind z.frm z.too z.term z.index z.iterm z.commit z.l z.snap) ro wi le ke p.id p.te p.vo p.base p.bt p.l p.x p.role p.vs.length p.ns.length p.ps.length p.ns p.ps p.com p.y p.su p.db.length p.hs size
theorem heldF_p (f : RpP -> Bool) (id : Int) (l : List RpC) : Qcp f id l = (l.map RpC.p).all (fun z => f z && z.frm == id) := by
 unfold Qcp; rw [List.all_map]; rfl
theorem okQ_same {q p : PC} (s : SameP q p) (ro wi le ke size : Int) : okQ ro wi le ke size q = okQ ro wi le ke size p := by
 have hl := Qbx s.hs
 unfold okQ peerB
 rw [s.id, s.te, s.vo, s.base, s.bt, s.l, s.role, s.vs, s.ns, s.ps, s.com, s.su, s.db]
 rw [show Qc8 ro wi le ke p.te p.vo p.base p.bt p.l q.x = Qc8 ro wi le ke p.te p.vo p.base p.bt p.l p.x by simp only [Qc8, keepB_p s.x], keepB_p s.y, heldF_p, heldF_p, s.hs, hl]
structure QAsk (q : PC) : Prop where
  f : PFit q
  l : ∀ z ∈ q.l, z.fit
  x : KAsk q.x
  y : KAsk q.y
  h : ∀ z ∈ q.hs, (∀ y ∈ z.l, y.fit) /\ z.snap.size <= 9223372036854775807
theorem QAsk.of {p : PC} (hr : PRight p) (hf : PFit p) : QAsk p := ⟨hf, fun z hz => (hr.lr z hz).fit, ⟨hf.xf, hr.xr.rr, hr.xr.lr⟩, ⟨hf.yf, hr.yr.rr, hr.yr.lr⟩, fun z hz => ⟨fun y hy => ((hr.hr z hz).2.1 y hy).fit, (hr.hr z hz).2.2⟩⟩
theorem QAsk.same {q p : PC} (h : QAsk p) (s : SameP q p) : QAsk q := by
 refine ⟨h.f.same s, s.l ▸ h.l, ask_p s.x h.x, ask_p s.y h.y, fun z hz => ?_⟩
 have h1 : z.p ∈ p.hs.map RpC.p := s.hs ▸ List.mem_map_of_mem hz
 obtain ⟨y, hy, e⟩ := List.mem_map.1 h1
 have e1 : y.l = z.l := congrArg RpP.l e
 have e2 : y.snap = z.snap := congrArg RpP.snap e
 rw [← e1, ← e2]; exact h.h y hy
theorem specOk_any {q : PC} (h : QAsk q) (ro wi le ke size : Int) (hs : I64 size) (W : World) (g : PAt W q) :
 Calls Tryz.prog 36 #[.agg #[.int .i64 ro, .int .i64 wi, .int .i64 le, .int .i64 ke], .agg (Qan q), .int .i64 size] W fun e w' => e = .returned (.bool (okQ ro wi le ke size q)) /\ Below W.heap.size W w' := by
 have f := h.f
 exact Qd9 (fun z => rpcB size z.kind z.frm z.too z.term z.index z.iterm z.commit z.l z.snap) ro wi le ke q.id q.te q.vo q.base q.bt q.role q.com q.su size q.A q.vA q.nA q.pA q.dA q.hA q.cap q.vs.length q.vc q.ns.length q.nc q.ps.length q.pc q.dc q.hc q.l q.ns q.ps q.db q.hs q.x q.y
  f.ll h.l rfl rfl f.vl f.nl f.pl (by have := f.dl; omega) f.hl h.x h.y hs W g.la g.xa g.na g.pa g.ya g.ha
  (fun z hz V gv => Qcs size z.kind z.frm z.too z.term z.index z.iterm z.commit z.ok z.snap (h.h z hz).2 z.A z.cap z.l (by have := f.hi z hz; omega) (h.h z hz).1 V ((g.he z hz).below gv))
theorem implOk_any {q : PC} (h : QAsk q) (ro wi le ke size : Int) (W : World) (g : PAt W q) :
 Calls Tryz.prog 113 #[.agg #[.int .i64 ro, .int .i64 wi, .int .i64 le, .int .i64 ke], .agg (Qan q), .int .i64 size] W fun e w' => e = .returned (.bool (okQ ro wi le ke size q)) /\ Below W.heap.size W w' := by
 have f := h.f
 exact Qei (fun z => rpcB size z.kind z.frm z.too z.term z.index z.iterm z.commit z.l z.snap) ro wi le ke q.id q.te q.vo q.base q.bt q.role q.com q.su size q.A q.vA q.nA q.pA q.dA q.hA q.cap q.vs.length q.vc q.ns.length q.nc q.ps.length q.pc q.dc q.hc q.l q.ns q.ps q.db q.hs q.x q.y
  f.ll h.l rfl rfl f.vl f.nl f.pl (by have := f.dl; omega) f.hl h.x h.y W g.la g.xa g.na g.pa g.ya g.ha
  (fun z hz V gv => Qcy size z.kind z.frm z.too z.term z.index z.iterm z.commit z.ok z.snap (h.h z hz).2 z.A z.cap z.l (by have := f.hi z hz; omega) (h.h z hz).1 V ((g.he z hz).below gv))
end Go.Proofs.YtbcbdhjeebcleaaGreatDoor.Gen
namespace Go.Proofs.YtbcbdhjeebcleaaGreatDoor.Gen
open ChangeShapes WideShapes ChangeAt RowKit Joins Deep Base
def Qbc (f : PC -> Bool) : Int -> List PC -> Bool
  | _, [] => true
  | i, x :: l => (decide (x.id = i) && f x) && Qbc f (i + 1) l
theorem Qe5 (f : PC -> Bool) (l : List PC) (n : Nat) (h : n < l.length) : Qbc f (n : Int) (l.drop n) = ((decide (l[n].id = (n : Int)) && f l[n]) && Qbc f ((n + 1 : Nat) : Int) (l.drop (n + 1))) := by
 rw [List.drop_eq_getElem_cons h]; rfl
theorem Qe4 {f g : PC -> Bool} (hfg : ∀ q p, SameP q p -> f q = g p) : ∀ (i : Int) (qs ps : List PC), SameN qs ps -> Qbc f i qs = Qbc g i ps
 | _, [], [], _ => rfl
 | _, [], _ :: _, h => by have := h.1; simp at this
 | _, _ :: _, [], h => by have := h.1; simp at this
 | i, q :: qs, p :: ps, h => by
  have h0 := h.2 0 (by simp) (by simp)
  simp only [List.getElem_cons_zero] at h0
  have ht : SameN qs ps := ⟨by have := h.1; simpa using this, fun k a b => by have := h.2 (k + 1) (by simpa using a) (by simpa using b); simpa using this⟩
  simp only [Qbc, h0.id, hfg q p h0, Qe4 hfg (i + 1) qs ps ht]
def Qdk (x : Co) : Bool := decide (x.who = 0 /\ x.seq = 0 /\ x.op = 0 /\ x.a = 0 /\ x.b = 0 /\ x.c = 0 /\ x.key.toList = [] /\ x.text.toList = [])
def okCo (x : Co) : Bool := CmdOk.okB x.who x.seq x.op x.a x.b x.c x.key x.text
def saidB (i : Int) (x : Co) : Bool := Qdk x || (okCo x && decide (x.who = i))
def Qch : Int -> List Co -> Bool
  | _, [] => true
  | i, x :: l => saidB i x && Qch (i + 1) l
theorem Qgh (l : List Co) (n : Nat) (h : n < l.length) : Qch (n : Int) (l.drop n) = (saidB (n : Int) l[n] && Qch ((n + 1 : Nat) : Int) (l.drop (n + 1))) := by
 rw [List.drop_eq_getElem_cons h]; rfl
def idxB (z : Int) : Bool := inB z 0 300
def Qa8 (h : He) : Bool := inB h.who 0 3 && inB h.seq 1 100000 && inB h.frm 0 300 && inB h.at_ 0 300 && ansB h.code h.n h.key h.text
def rpP (size : Int) (z : RpP) : Bool := rpcB size z.kind z.frm z.too z.term z.index z.iterm z.commit z.l z.snap
def rpB (size : Int) (z : RpC) : Bool := rpP size z.p
theorem Qb4 {α : Type} (f : α -> Bool) (l : List α) (n : Nat) (h : n < l.length) : (l.drop n).all f = (f l[n] && (l.drop (n + 1)).all f) := by
 rw [List.drop_eq_getElem_cons h]; rfl
def Qb0 (p : WC) : Bool := Qbc (fun x => okQ p.ro p.wi p.le p.ke p.size x) 0 p.ns && decide ((p.ns.length : Int) = p.size)
def Qb7 (p : WC) : Bool := Qch 0 p.ss && decide ((p.ss.length : Int) = 4)
def Qai (p : WC) : Bool := setB p.ro p.wi p.le p.ke && inB p.size 1 5 && Qb0 p && decide ((p.ms.length : Int) <= 40) && p.ms.all (rpB p.size) && Qb7 p && decide ((p.fs.length : Int) = 4) && p.fs.all idxB && decide ((p.hs.length : Int) <= 300) && p.hs.all Qa8 && decide ((p.ds.length : Int) <= 300) && p.ds.all okCo
theorem Qhf {q p : WC} (s : SameW q p) : Qai q = Qai p := by
 have hm : q.ms.all (rpB p.size) = p.ms.all (rpB p.size) := by
  have h1 : ∀ l : List RpC, l.all (rpB p.size) = (l.map RpC.p).all (rpP p.size) := fun l => by rw [List.all_map]; rfl
  rw [h1, h1, s.ms]
 have hn : Qb0 q = Qb0 p := by
  unfold Qb0
  rw [s.ro, s.wi, s.le, s.ke, s.size, s.ns.1, Qe4 (fun a b h => okQ_same h p.ro p.wi p.le p.ke p.size) 0 _ _ s.ns]
 have hs : Qb7 q = Qb7 p := by unfold Qb7; rw [s.ss]
 unfold Qai
 rw [hn, hs, s.ro, s.wi, s.le, s.ke, s.size, hm, Qbx s.ms, s.fs, s.hs, s.ds]
structure WAsk (p : WC) : Prop where
  f : WFit p
  n : ∀ x ∈ p.ns, QAsk x
  m : ∀ x ∈ p.ms, (∀ y ∈ x.l, y.fit) /\ x.snap.size <= 9223372036854775807
  s : ∀ x ∈ p.ss, x.fit
  h : ∀ x ∈ p.hs, x.fit
  d : ∀ x ∈ p.ds, x.fit
  z : I64 p.size
theorem WAsk.of {p : WC} (hr : WRight p) (hf : WFit p) (hz : I64 p.size) : WAsk p := ⟨hf, fun x hx => QAsk.of (hr.nr x hx) (hf.nf x hx), fun x hx => ⟨fun y hy => ((hr.mr x hx).2.1 y hy).fit, (hr.mr x hx).2.2⟩, hr.sr, hr.hr, hr.dr, hz⟩
theorem WAsk.same {q p : WC} (h : WAsk p) (s : SameW q p) : WAsk q := by
 refine ⟨h.f.same s, s.ns.all (fun q p k h => h.same k) h.n, fun z hz => ?_, s.ss ▸ h.s, s.hs ▸ h.h, s.ds ▸ h.d, s.size ▸ h.z⟩
 have h1 : z.p ∈ p.ms.map RpC.p := s.ms ▸ List.mem_map_of_mem hz
 obtain ⟨y, hy, e⟩ := List.mem_map.1 h1
 have e1 : y.l = z.l := congrArg RpP.l e
 have e2 : y.snap = z.snap := congrArg RpP.snap e
 rw [← e1, ← e2]; exact h.m y hy
theorem eqCz (x : Co) (w : World) : (Op.equalIn 10000 116 (.agg #[.int .i64 x.who, .int .i64 x.seq, .int .i64 x.op, .int .i64 x.a, .int .i64 x.b, .int .i64 x.c, .string x.key, .string x.text]) (.agg #[.int .i64 0, .int .i64 0, .int .i64 0, .int .i64 0, .int .i64 0, .int .i64 0, .string ⟨#[]⟩, .string ⟨#[]⟩])).run Tryz.prog w = .ok (Qdk x) w := by
 have u3 := Tryz.underlying3
 have us := Tryz.underlying9
 have hS : Tryz.prog.underlying 116 = some (.struct (Tryz.prog.fieldsOf 116)) := by kernel_rfl
 rw [show (10000 : Nat) = 9999 + 1 from rfl, run_equalIn_agg w 9999 116 _ _ hS (by kernel_rfl)]
 simp only [Program.fieldsOf, Tryz.underlying116]
 go_simp
 unfold Qdk
 by_cases h1 : x.who = 0
 case neg => simp [h1]
 by_cases h2 : x.seq = 0
 case neg => simp [h1, h2]
 by_cases h3 : x.op = 0
 case neg => simp [h1, h2, h3]
 by_cases h4 : x.a = 0
 case neg => simp [h1, h2, h3, h4]
 by_cases h5 : x.b = 0
 case neg => simp [h1, h2, h3, h4, h5]
 by_cases h6 : x.c = 0
 case neg => simp [h1, h2, h3, h4, h5, h6]
 by_cases h7 : x.key.toList = []
 case neg => simp [h1, h2, h3, h4, h5, h6, h7]
 by_cases h8 : x.text.toList = []
 case neg => simp [h1, h2, h3, h4, h5, h6, h7, h8]
 simp [h1, h2, h3, h4, h5, h6, h7, h8]
end Go.Proofs.YtbcbdhjeebcleaaGreatDoor.Gen
namespace Go.Proofs.YtbcbdhjeebcleaaGreatDoor.Gen
open ChangeShapes WideShapes ChangeAt RowKit Joins Deep Base
def cnt (l : List PC) (t : Int) : Nat := l.countP (fun x => decide (x.role = 2) && decide (x.te = t))
theorem Qb3 (l : List PC) (n : Nat) (h : n < l.length) (t : Int) : cnt (l.take (n + 1)) t = cnt (l.take n) t + (if l[n].role = 2 /\ l[n].te = t then 1 else 0) := by
 unfold cnt
 rw [List.take_succ_eq_append_getElem h, List.countP_append]
 by_cases h1 : l[n].role = 2<;>by_cases h2 : l[n].te = t<;>simp [h1, h2]
theorem cnt_mono (l : List PC) (n m : Nat) (h : n <= m) (t : Int) : cnt (l.take n) t <= cnt (l.take m) t := by
 unfold cnt
 exact (List.take_sublist_take_left h).countP_le
theorem cnt_all (l : List PC) (n : Nat) (t : Int) : cnt (l.take n) t <= cnt l t := by
 unfold cnt
 exact (List.take_sublist n l).countP_le
theorem cnt_same : ∀ {qs ps : List PC}, SameN qs ps -> ∀ t, cnt qs t = cnt ps t
 | [], [], _, _ => rfl
 | [], _ :: _, h, _ => by have := h.1; simp at this
 | _ :: _, [], h, _ => by have := h.1; simp at this
 | q :: qs, p :: ps, h, t => by
  have h0 := h.2 0 (by simp) (by simp)
  simp only [List.getElem_cons_zero] at h0
  have ht : SameN qs ps := ⟨by have := h.1; simpa using this, fun k a b => by have := h.2 (k + 1) (by simpa using a) (by simpa using b); simpa using this⟩
  have := cnt_same ht t
  unfold cnt at this ⊢
  rw [List.countP_cons, List.countP_cons, this, h0.role, h0.te]
noncomputable def oneLead (l : List PC) : Bool := @decide (∀ t, cnt l t <= 1) (Classical.propDecidable _)
theorem Qdg {l : List PC} (h : ∀ t, cnt l t <= 1) : oneLead l = true := @decide_eq_true _ (Classical.propDecidable _) h
theorem Qcv {l : List PC} {t : Int} (h : 2 <= cnt l t) : oneLead l = false := @decide_eq_false _ (Classical.propDecidable _) (fun k => by have := k t; omega)
theorem Qgs {qs ps : List PC} (h : SameN qs ps) : oneLead qs = oneLead ps := by
 have e : cnt qs = cnt ps := funext (cnt_same h)
 unfold oneLead
 rw [e]
noncomputable def leadB (p : WC) : Bool := Qai p && oneLead p.ns
theorem Qe6 {q p : WC} (s : SameW q p) : leadB q = leadB p := by unfold leadB; rw [Qhf s, Qgs s.ns]
theorem world_len {p : WC} (h : Qai p = true) : (p.ns.length : Int) = p.size := by
 unfold Qai Qb0 at h
 simp only [Bool.and_eq_true, decide_eq_true_eq] at h
 omega
theorem Qgt {f : PC -> Bool} : ∀ (i : Int) (l : List PC), Qbc f i l = true -> ∀ x ∈ l, f x = true
 | _, [], _, x, hx => by simp at hx
 | i, y :: l, h, x, hx => by
  simp only [Qbc, Bool.and_eq_true] at h
  rcases List.mem_cons.1 hx with rfl | hx
  . exact h.1.2
  . exact Qgt (i + 1) l h.2 x hx
theorem world_te {p : WC} (h : Qai p = true) : ∀ x ∈ p.ns, 0 <= x.te /\ x.te <= 300 := fun x hx => by
 unfold Qai Qb0 at h
 simp only [Bool.and_eq_true, decide_eq_true_eq] at h
 have hn : Qbc (fun x => okQ p.ro p.wi p.le p.ke p.size x) 0 p.ns = true := by simp [h]
 have := Qgt 0 p.ns hn x hx
 unfold okQ peerB Qc8 at this
 simp only [Bool.and_eq_true, decide_eq_true_eq] at this
 have ht : inB x.te 0 300 = true := by simp [this]
 simpa [inB] using ht
end Go.Proofs.YtbcbdhjeebcleaaGreatDoor.Gen
namespace Go.Proofs.YtbcbdhjeebcleaaGreatDoor.Gen
open ChangeShapes WideShapes ChangeAt RowKit Joins Deep Base
open Go.Maps (Keyed)
open Go.ChangeMaps (setBlock heap_setBlock_same heap_setBlock_other)
theorem keyedI : Keyed Tryz.prog 3 := Go.Maps.int_keyed Tryz.underlying3
theorem keyI {x : Int} (h : I64 x) : keyOf Tryz.prog 3 (.int .i64 x) = some (.int .i64 x) :=
 Go.Maps.keyOf_int_mk Tryz.underlying3 (by simpa [I64, Lit.wf, IntKind.min, IntKind.max, IntKind.signed, IntKind.bits] using h)
def mEnt (m : List (Int × Int)) (j : Nat) : MapEntry := ⟨.int .i64 (m.getD j (0, 0)).1, .int .i64 (m.getD j (0, 0)).2, j⟩
def Qa1 (m : List (Int × Int)) : Array MapEntry := ((List.range m.length).map (mEnt m)).toArray
theorem Qh1 (m : List (Int × Int)) (j : Nat) (h : j < m.length) : mEnt m j = ⟨.int .i64 m[j].1, .int .i64 m[j].2, j⟩ := by simp [mEnt, h]
theorem Qd0 {m : List (Int × Int)} {e : MapEntry} (h : e ∈ (Qa1 m).toList) : ∃ j, ∃ hj : j < m.length, e = ⟨.int .i64 m[j].1, .int .i64 m[j].2, j⟩ := by
 simp [Qa1] at h
 obtain ⟨j, hj, rfl⟩ := h
 exact ⟨j, hj, Qh1 m j hj⟩
theorem mEnts_get {m : List (Int × Int)} {j : Nat} {e : MapEntry} (h : (Qa1 m).toList[j]? = some e) : ∃ hj : j < m.length, e = ⟨.int .i64 m[j].1, .int .i64 m[j].2, j⟩ := by
 have h' : ((List.range m.length).map (mEnt m))[j]? = some e := by simpa [Qa1] using h
 obtain ⟨hj, he⟩ := List.getElem?_eq_some_iff.1 h'
 rw [List.getElem_map, List.getElem_range] at he
 have hl : j < m.length := by simpa using hj
 exact ⟨hl, by rw [← he, Qh1 m j hl]⟩
theorem mEnts_push (m : List (Int × Int)) (t v : Int) : (Qa1 m).push ⟨.int .i64 t, .int .i64 v, m.length⟩ = Qa1 (m ++ [(t, v)]) := by
 have h : (List.range m.length).map (mEnt (m ++ [(t, v)])) = (List.range m.length).map (mEnt m) := List.map_congr_left fun j hj => by
  have hj : j < m.length := by simpa using hj
  simp [mEnt, List.getD, List.getElem?_append_left hj]
 simp only [Qa1, List.length_append, List.length_singleton, List.range_succ, List.map_append, List.map_singleton, h]
 simp [mEnt]
theorem mEnts_set (m : List (Int × Int)) (j : Nat) (h : j < m.length) (v : Int) : (Qa1 m).modify j (fun e => { e with key := .int .i64 m[j].1, val := .int .i64 v }) = Qa1 (m.set j (m[j].1, v)) := by
 apply Array.ext'
 apply List.ext_getElem?
 intro k
 simp only [Array.toList_modify, Qa1, List.getElem?_modify, List.length_set, List.getElem?_map]
 by_cases hk : k < m.length
 . rw [List.getElem?_range hk]
   by_cases e : j = k
   . subst e; simp [mEnt, h]
   . simp [mEnt, e, List.getD, List.getElem?_set, e]
 . have : (List.range m.length)[k]? = none := by simp; omega
   simp [this]
def MapN (w : World) (b : Nat) (m : List (Int × Int)) : Prop := w.heap[b]? = some (.map (Qa1 m) m.length)
theorem MapN.lt {w : World} {b : Nat} {m : List (Int × Int)} (h : MapN w b m) : b < w.heap.size := (Array.getElem?_eq_some_iff.1 h).1
theorem MapN.below {w w' : World} {b : Nat} {m : List (Int × Int)} (h : MapN w b m) (g : Below w.heap.size w w') : MapN w' b m := (g.block b h.lt).trans h
theorem mKeys {m : List (Int × Int)} (hm : ∀ e ∈ m, I64 e.1) : ∀ e ∈ (Qa1 m).toList, ∃ l, keyOf Tryz.prog 3 e.key = some l := by
 intro e he
 obtain ⟨j, hj, rfl⟩ := Qd0 he
 exact ⟨_, keyI (hm _ (List.getElem_mem hj))⟩
theorem find_int {m : List (Int × Int)} (hm : ∀ e ∈ m, I64 e.1) {t : Int} (ht : I64 t) (w : World) :
 ((Instr.findKey 3 (.int .i64 t) (Qa1 m).toList).run Tryz.prog w = .ok none w /\ ∀ e ∈ m, e.1 ≠ t) ∨
 ∃ j, ∃ h : j < m.length, (Instr.findKey 3 (.int .i64 t) (Qa1 m).toList).run Tryz.prog w = .ok (some (j, .int .i64 m[j].2)) w /\ m[j].1 = t := by
 rcases keyedI.find w (keyI ht) (Qa1 m).toList (mKeys hm) with ⟨h1, h2⟩ | ⟨j, e, h1, h2, h3⟩
 . refine .inl ⟨h1, fun e he => ?_⟩
   obtain ⟨j, hj, rfl⟩ := List.getElem_of_mem he
   have := h2 (mEnt m j) (by simp [Qa1]; exact ⟨j, hj, rfl⟩)
   rw [Qh1 m j hj] at this
   intro e
   exact this (by rw [e])
 . obtain ⟨hj, rfl⟩ := mEnts_get h2
   refine .inr ⟨j, hj, h1, ?_⟩
   simpa using h3
theorem zeroInt (w : World) : (zeroValue 3).run Tryz.prog w = .ok (.int .i64 0) w := by kernel_rfl
def Inc (m : List (Int × Int)) (t z : Int) (m' : List (Int × Int)) : Prop := ((∀ e ∈ m, e.1 ≠ t) /\ z = 0 /\ m' = m ++ [(t, 1)]) ∨ ∃ j, ∃ h : j < m.length, m[j].1 = t /\ z = m[j].2 /\ m' = m.set j (t, z + 1)
theorem inc_run {w : World} {b : Nat} {m : List (Int × Int)} (hm : ∀ e ∈ m, I64 e.1) (h : MapN w b m) {t : Int} (ht : I64 t) :
 ∃ z m' w', Inc m t z m' /\ (Instr.lookup 446 (.map (some b)) (.int .i64 t) false).run Tryz.prog w = .ok (.int .i64 z) w /\ (Instr.mapUpdate 446 (.map (some b)) (.int .i64 t) (.int .i64 (z + 1))).run Tryz.prog w = .ok () w' /\ MapN w' b m' /\ w.grownBy w' (some b) := by
 have hk := keyI ht
 rcases find_int hm ht w with ⟨h1, h2⟩ | ⟨j, hj, h1, h2⟩
 . refine ⟨0, _, setBlock w b (.map ((Qa1 m).push ⟨.int .i64 t, .int .i64 1, m.length⟩) (m.length + 1)), .inl ⟨h2, rfl, rfl⟩, ?_, ?_, ?_, ?_⟩
   . simp [Instr.lookup, run_underlying Tryz.underlying446, MapKept.run_getObj_map h, keyedI.check w _ hk, h1, zeroInt, Result.andThen]
   . simp [Instr.mapUpdate, run_underlying Tryz.underlying446, MapKept.run_getObj_map h, keyedI.check w false hk, h1, MapKept.run_setObj_map _ h, Result.andThen, setBlock]
   . have := heap_setBlock_same h (.map ((Qa1 m).push ⟨.int .i64 t, .int .i64 1, m.length⟩) (m.length + 1))
     show _ = _
     rw [this, mEnts_push]
     simp
   . exact ⟨rfl, rfl, rfl, by simp [setBlock], fun i _ hi => heap_setBlock_other h _ (fun e => hi (by rw [e]))⟩
 . have hst := keyedI.stays w hk
   have hgk : (((Qa1 m)[j]?).map (·.key)).getD (.int .i64 t) = .int .i64 t := by
    simp [Qa1, hj, mEnt, h2]
   refine ⟨m[j].2, m.set j (t, m[j].2 + 1), setBlock w b (.map ((Qa1 m).modify j (fun e => { e with key := .int .i64 t, val := .int .i64 (m[j].2 + 1) })) m.length), .inr ⟨j, hj, h2, rfl, rfl⟩, ?_, ?_, ?_, ?_⟩
   . simp [Instr.lookup, run_underlying Tryz.underlying446, MapKept.run_getObj_map h, keyedI.check w _ hk, h1, Result.andThen]
   . simp [Instr.mapUpdate, run_underlying Tryz.underlying446, MapKept.run_getObj_map h, keyedI.check w false hk, h1, hgk, hst, MapKept.run_setObj_map _ h, Result.andThen, setBlock]
   . have := heap_setBlock_same h (.map ((Qa1 m).modify j (fun e => { e with key := .int .i64 t, val := .int .i64 (m[j].2 + 1) })) m.length)
     have h4 := mEnts_set m j hj (m[j].2 + 1)
     rw [h2] at h4
     rw [h4] at this
     show _ = _
     rw [List.length_set, ← this, h4]
   . exact ⟨rfl, rfl, rfl, by simp [setBlock], fun i _ hi => heap_setBlock_other h _ (fun e => hi (by rw [e]))⟩
def IterN (w : World) (r b c : Nat) (S : Array Nat) : Prop := w.heap[r]? = some (.mapIter (some b) c S c)
theorem MapN.ne {w : World} {r b d : Nat} {m : List (Int × Int)} {S : Array Nat} (h : MapN w b m) (k : IterN w r b d S) : r ≠ b := fun e => by
 subst e; have := (show w.heap[r]? = _ from h).symm.trans k; cases this
theorem stepN {w : World} {r b : Nat} {m : List (Int × Int)} {S : Array Nat} (hb : MapN w b m) (hr : IterN w r b m.length S) (ty : TypeId) :
 ((∀ i, i < m.length -> i ∈ S) /\ (Instr.next (.pointer (some ⟨r, 0, none⟩)) false ty).run Tryz.prog w = .ok (.tuple #[.bool false]) w) ∨
 ∃ i, ∃ hi : i < m.length, i ∉ S /\ ∃ w', (Instr.next (.pointer (some ⟨r, 0, none⟩)) false ty).run Tryz.prog w = .ok (.tuple #[.bool true, .int .i64 m[i].1, .int .i64 m[i].2]) w' /\ MapN w' b m /\ IterN w' r b m.length (S.push i) /\ Offp (fun x => x = r) w w' /\
  (Instr.entry (.pointer (some ⟨r, 0, none⟩))).run Tryz.prog w' = .ok (.tuple #[.int .i64 m[i].1, .int .i64 m[i].2]) w' /\ w'.rangeLeft b r < w.rangeLeft b r := by
 have hne := hb.ne hr
 have hold : ∀ x ∈ (Qa1 m).toList, x.born < m.length := fun x hx => by obtain ⟨i, hi, rfl⟩ := Qd0 hx; exact hi
 rcases run_next_at (P := Tryz.prog) w ty r b m.length m.length S (Qa1 m) m.length hr hb hold (Nat.le_refl _) with ⟨h0, hrun⟩ | ⟨e, he, w1, hal, hrun⟩
 . refine .inl ⟨fun i hi => ?_, hrun⟩
   have := all_seen _ _ h0 (mEnt m i) (by simp [Qa1]; exact ⟨i, hi, rfl⟩)
   simpa [mEnt] using this
 . obtain ⟨hem, hes⟩ := mem_left he
   obtain ⟨i, hi, rfl⟩ := Qd0 hem
   have hr1 : w1.heap[r]? = some (.mapIter (some b) m.length S m.length) := by rcases hal with rfl | rfl<;>exact hr
   have hb1 : w1.heap[b]? = some (.map (Qa1 m) m.length) := by rcases hal with rfl | rfl<;>exact hb
   have hset := MapKept.heap_set (o' := .mapIter (some b) m.length (S.push i) m.length) hr1
   have hM : MapN (setBlock w1 r (.mapIter (some b) m.length (S.push i) m.length)) b m := (hset.2 b (fun e1 => hne e1.symm)).trans hb1
   have hIt : IterN (setBlock w1 r (.mapIter (some b) m.length (S.push i) m.length)) r b m.length (S.push i) := hset.1
   refine .inr ⟨i, hi, by simpa using hes, _, hrun, hM, hIt, ?_, ?_, ?_⟩
   . rcases hal with rfl | rfl
     . exact ⟨rfl, rfl, rfl, by simp [setBlock], fun k hk hn => hset.2 k hn⟩
     . exact ⟨rfl, rfl, rfl, by simp [setBlock], fun k hk hn => hset.2 k hn⟩
   . refine run_entry_at _ r b m.length S (Qa1 m) m.length _ hset.1 hM hem ?_
     simp only [Qa1, List.map_map]
     have : (MapEntry.born ∘ mEnt m) = id := by funext j; rfl
     rw [this, List.map_id]
     exact List.nodup_range
   . have h1 : (setBlock w1 r (.mapIter (some b) m.length (S.push i) m.length)).rangeLeft b r = (leftOf (Qa1 m) (S.push i)).size := by
      unfold World.rangeLeft; rw [hM, show (setBlock w1 r _).heap[r]? = _ from hset.1]
     have h2 : w.rangeLeft b r = (leftOf (Qa1 m) S).size := by
      unfold World.rangeLeft; rw [hb, hr]
     rw [h1, h2]
     exact left_shrinks _ _ _ he
end Go.Proofs.YtbcbdhjeebcleaaGreatDoor.Gen
namespace Go.Proofs.YtbcbdhjeebcleaaGreatDoor.Gen
open ChangeShapes WideShapes ChangeAt RowKit Joins Deep Base
structure Cnts (m : List (Int × Int)) (l : List PC) : Prop where
  nd : (m.map Prod.fst).Nodup
  val : ∀ e ∈ m, e.2 = (cnt l e.1 : Int)
  i64 : ∀ e ∈ m, I64 e.1
  all : ∀ t, 0 < cnt l t -> ∃ e ∈ m, e.1 = t
theorem Cnts.nil : Cnts [] [] := ⟨by simp, by simp, by simp, fun t h => by simp [cnt] at h⟩
theorem Cnts.skip {m : List (Int × Int)} {l : List PC} {n : Nat} (h : n < l.length) (k : Cnts m (l.take n)) (hr : l[n].role ≠ 2) : Cnts m (l.take (n + 1)) := by
 have e : ∀ t, cnt (l.take (n + 1)) t = cnt (l.take n) t := fun t => by rw [Qb3 l n h, if_neg (fun a => hr a.1)]; rfl
 exact ⟨k.nd, fun x hx => by rw [e]; exact k.val x hx, k.i64, fun t ht => k.all t (by rw [e] at ht; exact ht)⟩
theorem Cnts.inc {m m' : List (Int × Int)} {l : List PC} {n : Nat} {z : Int} (h : n < l.length) (k : Cnts m (l.take n)) (hr : l[n].role = 2) (ht : I64 l[n].te) (i : Inc m l[n].te z m') : Cnts m' (l.take (n + 1)) /\ z = (cnt (l.take n) l[n].te : Int) := by
 have e1 : cnt (l.take (n + 1)) l[n].te = cnt (l.take n) l[n].te + 1 := by rw [Qb3 l n h, if_pos ⟨hr, rfl⟩]
 have e2 : ∀ t, t ≠ l[n].te -> cnt (l.take (n + 1)) t = cnt (l.take n) t := fun t hn => by rw [Qb3 l n h, if_neg (fun a => hn a.2.symm)]; rfl
 rcases i with ⟨hno, rfl, rfl⟩ | ⟨j, hj, hk, rfl, rfl⟩
 . have h0 : cnt (l.take n) l[n].te = 0 := by
    rcases Nat.eq_zero_or_pos (cnt (l.take n) l[n].te) with h | h
    . exact h
    . obtain ⟨e, he, h2⟩ := k.all _ h
      exact absurd h2 (hno e he)
   refine ⟨⟨?_, ?_, ?_, ?_⟩, by rw [h0]; rfl⟩
   . rw [List.map_append, List.nodup_append]
     refine ⟨k.nd, by simp, ?_⟩
     intro a ha b hb
     obtain ⟨e, he, rfl⟩ := List.mem_map.1 ha
     simp at hb
     rw [hb]
     exact hno e he
   . intro e he
     rcases List.mem_append.1 he with he | he
     . rw [e2 _ (hno e he)]; exact k.val e he
     . rw [List.mem_singleton] at he
       subst he
       show (1 : Int) = _
       rw [e1, h0]; rfl
   . intro e he
     rcases List.mem_append.1 he with he | he
     . exact k.i64 e he
     . rw [List.mem_singleton] at he; subst he; exact ht
   . intro t h3
     by_cases et : t = l[n].te
     . exact ⟨(l[n].te, 1), by simp, et.symm⟩
     . rw [e2 t et] at h3
       obtain ⟨e, he, h4⟩ := k.all t h3
       exact ⟨e, List.mem_append_left _ he, h4⟩
 . have hv := k.val m[j] (List.getElem_mem hj)
   rw [hk] at hv
   refine ⟨⟨?_, ?_, ?_, ?_⟩, hv⟩
   . have : (m.set j (l[n].te, m[j].2 + 1)).map Prod.fst = m.map Prod.fst := by
      rw [List.map_set]
      apply List.ext_getElem (by simp)
      intro q h1 h2
      rw [List.getElem_set]
      split
      . rename_i e; subst e; simp [hk]
      . rfl
     rw [this]; exact k.nd
   . intro e he
     obtain ⟨q, hq, rfl⟩ := List.getElem_of_mem he
     have hq2 : q < m.length := by simpa using hq
     rw [List.getElem_set]
     split
     . show m[j].2 + 1 = _
       rw [e1, hv]; rfl
     . rename_i hne
       have h5 : m[q].1 ≠ l[n].te := fun e => by
        have := (List.getElem_inj (i := j) (j := q) (h₀ := by simpa using hj) (h₁ := by simpa using hq2) k.nd).1 (by simp [hk, e])
        exact hne this
       rw [e2 _ h5]; exact k.val _ (List.getElem_mem _)
   . intro e he
     rcases List.mem_or_eq_of_mem_set he with h6 | rfl
     . exact k.i64 e h6
     . exact ht
   . intro t h3
     by_cases et : t = l[n].te
     . exact ⟨(l[n].te, m[j].2 + 1), List.mem_set hj _, et.symm⟩
     . rw [e2 t et] at h3
       obtain ⟨e, he, h4⟩ := k.all t h3
       obtain ⟨q, hq, rfl⟩ := List.getElem_of_mem he
       refine ⟨m[q], ?_, h4⟩
       have hne : j ≠ q := fun e => by subst e; exact et (h4.symm.trans hk)
       rw [List.mem_iff_getElem]
       exact ⟨q, by simpa using hq, by rw [List.getElem_set_ne hne]⟩
theorem Cnts.done {m : List (Int × Int)} {l : List PC} (k : Cnts m l) : m.all (fun e => decide (e.2 <= 1)) = oneLead l := by
 cases h : m.all (fun e => decide (e.2 <= 1))
 . obtain ⟨e, he, h2⟩ := List.all_eq_false.1 h
   have h3 := k.val e he
   exact (Qcv (t := e.1) (by simp at h2; omega)).symm
 . refine (Qdg fun t => ?_).symm
   rcases Nat.eq_zero_or_pos (cnt l t) with h0 | h0
   . omega
   . obtain ⟨e, he, rfl⟩ := k.all t h0
     have h3 := k.val e he
     have h4 := List.all_eq_true.1 h e he
     simp at h4
     omega
theorem cnt_le (l : List PC) (t : Int) : cnt l t <= l.length := List.countP_le_length
end Go.Proofs.YtbcbdhjeebcleaaGreatDoor.Gen
