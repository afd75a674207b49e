/-
  The program's PeerOk at this seat. No condition but that its lists have at most 1048576 records, and what it says of RpcOk.
-/
import Derived.Test.YtkmkldjipihceaaGreatPeI3
import Derived.Test.YtkmkldjipihceaaGreatRpOk
import Derived.Test.YtkmkldjipihceaaGreatWhl
import Derived.Test.YtkmkldjipihceaaGreatRst
set_option linter.unusedVariables false
set_option linter.unusedSimpArgs false
set_option maxRecDepth 100000
set_option maxHeartbeats 8000000
set_option maxRecDepth 100000
set_option maxHeartbeats 8000000
namespace Go.Proofs.YtkmkldjipihceaaGreat.Gen
open ChangeShapes WideShapes ChangeAt RowKit Joins Deep Base
theorem Qfz (rpcF : RpP -> Bool) (ro wi le ke id te vo base bt role com su size : Int) (A vA nA pA dA hA0 : Option Addr) (cap vn vc nn nc pn pc dc hc : Nat) (l : List En) (ns ps : List Int) (db : List UInt8) (hs : List RpC) (x y : KC)
 (hl : l.length <= 1048576) (hr : ∀ z ∈ l, z.fit) (hnn : nn = ns.length) (hpn : pn = ps.length) (hvl : vn <= 1048576) (hnl : nn <= 1048576) (hpl : pn <= 1048576) (hdl : db.length <= 9223372036854775807) (hhl : hs.length <= 1048576) (hax : KAsk x) (hay : KAsk y) (w : World) (hA : At w A l) (hx : KAt w x) (hN : At w nA ns) (hP : At w pA ps) (hy : KAt w y) (hH : At w hA0 hs)
 (hR : ∀ z ∈ hs, ∀ W : World, Below w.heap.size w W -> Calls Tryz.prog 53 #[.agg (Cel.cs z).toArray, .int .i64 size] W fun e w' => e = .returned (.bool (rpcF z.p)) /\ Below W.heap.size W w') :
 Calls Tryz.prog 126 #[.agg (Qac te vo base bt A l.length cap x.rA x.rs.length x.rc x.mA x.ms.length x.mc x.gA x.gs.length x.gc x.time x.dA x.ds.length x.dc x.lA x.ls.length x.lc ro wi le ke size id role vA vn vc nA nn nc pA pn pc com y.rA y.rs.length y.rc y.mA y.ms.length y.mc y.gA y.gs.length y.gc y.time y.dA y.ds.length y.dc y.lA y.ls.length y.lc dA db.length dc su hA0 hs.length hc)] w fun e w' => e = .returned (.bool (peerB rpcF ro wi le ke id te vo base bt l x role vn nn pn ns ps com y su db.length hs size)) /\ Below w.heap.size w w' := by
 obtain ⟨b1, h1⟩ : ∃ b, inB size 1 5 = b := ⟨_, rfl⟩
 obtain ⟨b2, h2⟩ : ∃ b, inB id 0 (size - 1) = b := ⟨_, rfl⟩
 obtain ⟨b3, h3⟩ : ∃ b, Qd2 ro wi le ke te vo base bt l x = b := ⟨_, rfl⟩
 obtain ⟨b4, h4⟩ : ∃ b, decide (vo < size) = b := ⟨_, rfl⟩
 obtain ⟨b5, h5⟩ : ∃ b, inB role 0 2 = b := ⟨_, rfl⟩
 obtain ⟨b6, h6⟩ : ∃ b, decide ((vn : Int) = size) = b := ⟨_, rfl⟩
 obtain ⟨b7, h7⟩ : ∃ b, (decide ((nn : Int) = size) && ns.all (fun z => inB z 1 (Qbc base l + 1)) && decide ((pn : Int) = size) && ps.all (fun z => inB z 0 (Qbc base l))) = b := ⟨_, rfl⟩
 obtain ⟨b9, h9⟩ : ∃ b, inB com base (Qbc base l) = b := ⟨_, rfl⟩
 obtain ⟨b10, h10⟩ : ∃ b, Qbo ro wi le ke y = b := ⟨_, rfl⟩
 obtain ⟨b11, h11⟩ : ∃ b, Qge su db.length = b := ⟨_, rfl⟩
 obtain ⟨b12, h12⟩ : ∃ b, (decide (hs.length <= 40) && Qdc rpcF id hs) = b := ⟨_, rfl⟩
 have hF : Hid (peerB rpcF ro wi le ke id te vo base bt l x role vn nn pn ns ps com y su db.length hs size = (b1 && b2 && b3 && b4 && b5 && b6 && b7 && b9 && b10 && b11 && b12)) := by
  show _ = _
  rw [← h1, ← h2, ← h3, ← h4, ← h5, ← h6, ← h7, ← h9, ← h10, ← h11, ← h12]
  unfold peerB Qg2
  ac_rfl
 have Q4 := hidP h4
 have Q6 : Hid (((vn : Int) == size) = b6) := h6
 have E1 : Hid (∀ W : World, Calls Tryz.prog 49 #[.int .i64 size] W fun e w' => e = .returned (.bool b1) /\ w' = W) := fun W => h1 ▸ Qdt _ W
 have E2 : Hid (∀ W : World, Calls Tryz.prog 91 #[.int .i64 id, .int .i64 size] W fun e w' => e = .returned (.bool b2) /\ Below W.heap.size W w') := fun W => h2 ▸ Qcl _ _ W
 have E3 : Hid (∀ W : World, Below w.heap.size w W -> Calls Tryz.prog 145 #[.agg (Qag ro wi le ke), .agg (Qad te vo base bt A l.length cap x.rA x.rs.length x.rc x.mA x.ms.length x.mc x.gA x.gs.length x.gc x.time x.dA x.ds.length x.dc x.lA x.ls.length x.lc)] W fun e w' => e = .returned (.bool b3) /\ Below W.heap.size W w') := fun W g => h3 ▸ Qey ro wi le ke te vo base bt A cap l hl hr x hax W (hA.below g) (hx.below g)
 have E5 : Hid (∀ W : World, Calls Tryz.prog 89 (Qa4 role 0 2) W fun e w' => e = .returned (.bool b5) /\ w' = W) := fun W => h5 ▸ within_any _ _ _ W
 have E7 : Hid (b3 = true -> ∀ W : World, Below w.heap.size w W -> Calls Tryz.prog 146 #[.agg (Qac te vo base bt A l.length cap x.rA x.rs.length x.rc x.mA x.ms.length x.mc x.gA x.gs.length x.gc x.time x.dA x.ds.length x.dc x.lA x.ls.length x.lc ro wi le ke size id role vA vn vc nA nn nc pA pn pc com y.rA y.rs.length y.rc y.mA y.ms.length y.mc y.gA y.gs.length y.gc y.time y.dA y.ds.length y.dc y.lA y.ls.length y.lc dA db.length dc su hA0 hs.length hc)] W fun e w' => e = .returned (.bool b7) /\ Below W.heap.size W w') := fun h W g => h7 ▸ Qe2 ro wi le ke id te vo base bt role com su size A vA nA pA dA hA0 cap vn vc nn nc pn pc dc hc l ns ps db hs x y hl hnn hpn hnl hpl (last_in (hard_log (h3.trans h))) W (hA.below g) (hN.below g) (hP.below g)
 have E8 : Hid (∀ W : World, Below w.heap.size w W -> Calls Tryz.prog 67 #[.agg (Qad te vo base bt A l.length cap x.rA x.rs.length x.rc x.mA x.ms.length x.mc x.gA x.gs.length x.gc x.time x.dA x.ds.length x.dc x.lA x.ls.length x.lc)] W fun e w' => e = .returned (.int .i64 (Qbc base l)) /\ Below W.heap.size W w') := fun W g => Qcg te vo base bt A cap l hl x W (hA.below g)
 have E9 : Hid (∀ W : World, Calls Tryz.prog 89 (Qa4 com base (Qbc base l)) W fun e w' => e = .returned (.bool b9) /\ w' = W) := fun W => h9 ▸ within_any _ _ _ W
 have E10 : Hid (∀ W : World, Below w.heap.size w W -> Calls Tryz.prog 147 #[.agg (Qag ro wi le ke), .agg (Qae y.rA y.rs.length y.rc y.mA y.ms.length y.mc y.gA y.gs.length y.gc y.time y.dA y.ds.length y.dc y.lA y.ls.length y.lc)] W fun e w' => e = .returned (.bool b10) /\ Below W.heap.size W w') := fun W g => h10 ▸ Qc9 ro wi le ke y hay W (hy.below g)
 have E11 : Hid (∀ W : World, Calls Tryz.prog 148 #[.agg #[.slice dA db.length dc, .int .i64 su]] W fun e w' => e = .returned (.bool b11) /\ Below W.heap.size W w') := fun W => h11 ▸ Qez su dA db.length dc hdl W
 have E12 : Hid (∀ W : World, Below w.heap.size w W -> Calls Tryz.prog 149 #[.agg (Qac te vo base bt A l.length cap x.rA x.rs.length x.rc x.mA x.ms.length x.mc x.gA x.gs.length x.gc x.time x.dA x.ds.length x.dc x.lA x.ls.length x.lc ro wi le ke size id role vA vn vc nA nn nc pA pn pc com y.rA y.rs.length y.rc y.mA y.ms.length y.mc y.gA y.gs.length y.gc y.time y.dA y.ds.length y.dc y.lA y.ls.length y.lc dA db.length dc su hA0 hs.length hc)] W fun e w' => e = .returned (.bool b12) /\ Below W.heap.size W w') := fun W g => h12 ▸ Qe0 rpcF ro wi le ke id te vo base bt role com su size A vA nA pA dA hA0 cap vn vc nn nc pn pc dc hc l ns ps db hs x y hhl W (hH.below g) (fun z hz V g' => hR z hz V (via0 g' g))
 obtain ⟨nd, hnd⟩ : ∃ nd : Array Value, nd = (Qac te vo base bt A l.length cap x.rA x.rs.length x.rc x.mA x.ms.length x.mc x.gA x.gs.length x.gc x.time x.dA x.ds.length x.dc x.lA x.ls.length x.lc ro wi le ke size id role vA vn vc nA nn nc pA pn pc com y.rA y.rs.length y.rc y.mA y.ms.length y.mc y.gA y.gs.length y.gc y.time y.dA y.ds.length y.dc y.lA y.ls.length y.lc dA db.length dc su hA0 hs.length hc) := ⟨_, rfl⟩
 have C0 : Hid (∀ W : World, Blk W w.heap.size 195 nd -> W.cell? ⟨w.heap.size, 0, none⟩ = some (.int .i64 te)) := fun W p => by rw [hnd] at p; exact p.cell rfl
 have C1 : Hid (∀ W : World, Blk W w.heap.size 195 nd -> W.cell? ⟨w.heap.size, 1, none⟩ = some (.int .i64 vo)) := fun W p => by rw [hnd] at p; exact p.cell rfl
 have C2 : Hid (∀ W : World, Blk W w.heap.size 195 nd -> W.cell? ⟨w.heap.size, 2, none⟩ = some (.int .i64 base)) := fun W p => by rw [hnd] at p; exact p.cell rfl
 have C3 : Hid (∀ W : World, Blk W w.heap.size 195 nd -> W.cell? ⟨w.heap.size, 3, none⟩ = some (.int .i64 bt)) := fun W p => by rw [hnd] at p; exact p.cell rfl
 have C4 : Hid (∀ W : World, Blk W w.heap.size 195 nd -> W.cell? ⟨w.heap.size, 4, none⟩ = some (.slice A l.length cap)) := fun W p => by rw [hnd] at p; exact p.cell rfl
 have C5 : Hid (∀ W : World, Blk W w.heap.size 195 nd -> W.cell? ⟨w.heap.size, 5, none⟩ = some (.slice x.rA x.rs.length x.rc)) := fun W p => by rw [hnd] at p; exact p.cell rfl
 have C6 : Hid (∀ W : World, Blk W w.heap.size 195 nd -> W.cell? ⟨w.heap.size, 6, none⟩ = some (.slice x.mA x.ms.length x.mc)) := fun W p => by rw [hnd] at p; exact p.cell rfl
 have C7 : Hid (∀ W : World, Blk W w.heap.size 195 nd -> W.cell? ⟨w.heap.size, 7, none⟩ = some (.slice x.gA x.gs.length x.gc)) := fun W p => by rw [hnd] at p; exact p.cell rfl
 have C8 : Hid (∀ W : World, Blk W w.heap.size 195 nd -> W.cell? ⟨w.heap.size, 8, none⟩ = some (.int .i64 x.time)) := fun W p => by rw [hnd] at p; exact p.cell rfl
 have C9 : Hid (∀ W : World, Blk W w.heap.size 195 nd -> W.cell? ⟨w.heap.size, 9, none⟩ = some (.slice x.dA x.ds.length x.dc)) := fun W p => by rw [hnd] at p; exact p.cell rfl
 have C10 : Hid (∀ W : World, Blk W w.heap.size 195 nd -> W.cell? ⟨w.heap.size, 10, none⟩ = some (.slice x.lA x.ls.length x.lc)) := fun W p => by rw [hnd] at p; exact p.cell rfl
 have C11 : Hid (∀ W : World, Blk W w.heap.size 195 nd -> W.cell? ⟨w.heap.size, 11, none⟩ = some (.int .i64 ro)) := fun W p => by rw [hnd] at p; exact p.cell rfl
 have C12 : Hid (∀ W : World, Blk W w.heap.size 195 nd -> W.cell? ⟨w.heap.size, 12, none⟩ = some (.int .i64 wi)) := fun W p => by rw [hnd] at p; exact p.cell rfl
 have C13 : Hid (∀ W : World, Blk W w.heap.size 195 nd -> W.cell? ⟨w.heap.size, 13, none⟩ = some (.int .i64 le)) := fun W p => by rw [hnd] at p; exact p.cell rfl
 have C14 : Hid (∀ W : World, Blk W w.heap.size 195 nd -> W.cell? ⟨w.heap.size, 14, none⟩ = some (.int .i64 ke)) := fun W p => by rw [hnd] at p; exact p.cell rfl
 have C15 : Hid (∀ W : World, Blk W w.heap.size 195 nd -> W.cell? ⟨w.heap.size, 15, none⟩ = some (.int .i64 size)) := fun W p => by rw [hnd] at p; exact p.cell rfl
 have C16 : Hid (∀ W : World, Blk W w.heap.size 195 nd -> W.cell? ⟨w.heap.size, 16, none⟩ = some (.int .i64 id)) := fun W p => by rw [hnd] at p; exact p.cell rfl
 have C17 : Hid (∀ W : World, Blk W w.heap.size 195 nd -> W.cell? ⟨w.heap.size, 17, none⟩ = some (.int .i64 role)) := fun W p => by rw [hnd] at p; exact p.cell rfl
 have C18 : Hid (∀ W : World, Blk W w.heap.size 195 nd -> W.cell? ⟨w.heap.size, 18, none⟩ = some (.slice vA vn vc)) := fun W p => by rw [hnd] at p; exact p.cell rfl
 have C19 : Hid (∀ W : World, Blk W w.heap.size 195 nd -> W.cell? ⟨w.heap.size, 19, none⟩ = some (.slice nA nn nc)) := fun W p => by rw [hnd] at p; exact p.cell rfl
 have C20 : Hid (∀ W : World, Blk W w.heap.size 195 nd -> W.cell? ⟨w.heap.size, 20, none⟩ = some (.slice pA pn pc)) := fun W p => by rw [hnd] at p; exact p.cell rfl
 have C21 : Hid (∀ W : World, Blk W w.heap.size 195 nd -> W.cell? ⟨w.heap.size, 21, none⟩ = some (.int .i64 com)) := fun W p => by rw [hnd] at p; exact p.cell rfl
 have C22 : Hid (∀ W : World, Blk W w.heap.size 195 nd -> W.cell? ⟨w.heap.size, 22, none⟩ = some (.slice y.rA y.rs.length y.rc)) := fun W p => by rw [hnd] at p; exact p.cell rfl
 have C23 : Hid (∀ W : World, Blk W w.heap.size 195 nd -> W.cell? ⟨w.heap.size, 23, none⟩ = some (.slice y.mA y.ms.length y.mc)) := fun W p => by rw [hnd] at p; exact p.cell rfl
 have C24 : Hid (∀ W : World, Blk W w.heap.size 195 nd -> W.cell? ⟨w.heap.size, 24, none⟩ = some (.slice y.gA y.gs.length y.gc)) := fun W p => by rw [hnd] at p; exact p.cell rfl
 have C25 : Hid (∀ W : World, Blk W w.heap.size 195 nd -> W.cell? ⟨w.heap.size, 25, none⟩ = some (.int .i64 y.time)) := fun W p => by rw [hnd] at p; exact p.cell rfl
 have C26 : Hid (∀ W : World, Blk W w.heap.size 195 nd -> W.cell? ⟨w.heap.size, 26, none⟩ = some (.slice y.dA y.ds.length y.dc)) := fun W p => by rw [hnd] at p; exact p.cell rfl
 have C27 : Hid (∀ W : World, Blk W w.heap.size 195 nd -> W.cell? ⟨w.heap.size, 27, none⟩ = some (.slice y.lA y.ls.length y.lc)) := fun W p => by rw [hnd] at p; exact p.cell rfl
 have C28 : Hid (∀ W : World, Blk W w.heap.size 195 nd -> W.cell? ⟨w.heap.size, 28, none⟩ = some (.slice dA db.length dc)) := fun W p => by rw [hnd] at p; exact p.cell rfl
 have C29 : Hid (∀ W : World, Blk W w.heap.size 195 nd -> W.cell? ⟨w.heap.size, 29, none⟩ = some (.int .i64 su)) := fun W p => by rw [hnd] at p; exact p.cell rfl
 have C30 : Hid (∀ W : World, Blk W w.heap.size 195 nd -> W.cell? ⟨w.heap.size, 30, none⟩ = some (.slice hA0 hs.length hc)) := fun W p => by rw [hnd] at p; exact p.cell rfl
 have C11s1 : Hid (∀ W : World, Blk W w.heap.size 195 nd -> W.cell? ⟨w.heap.size, 11 + 1, none⟩ = some (.int .i64 wi)) := fun W p => by rw [hnd] at p; exact p.cell rfl
 have C11s2 : Hid (∀ W : World, Blk W w.heap.size 195 nd -> W.cell? ⟨w.heap.size, 11 + 2, none⟩ = some (.int .i64 le)) := fun W p => by rw [hnd] at p; exact p.cell rfl
 have C11s3 : Hid (∀ W : World, Blk W w.heap.size 195 nd -> W.cell? ⟨w.heap.size, 11 + 3, none⟩ = some (.int .i64 ke)) := fun W p => by rw [hnd] at p; exact p.cell rfl
 have C22s1 : Hid (∀ W : World, Blk W w.heap.size 195 nd -> W.cell? ⟨w.heap.size, 22 + 1, none⟩ = some (.slice y.mA y.ms.length y.mc)) := fun W p => by rw [hnd] at p; exact p.cell rfl
 have C22s2 : Hid (∀ W : World, Blk W w.heap.size 195 nd -> W.cell? ⟨w.heap.size, 22 + 2, none⟩ = some (.slice y.gA y.gs.length y.gc)) := fun W p => by rw [hnd] at p; exact p.cell rfl
 have C22s3 : Hid (∀ W : World, Blk W w.heap.size 195 nd -> W.cell? ⟨w.heap.size, 22 + 3, none⟩ = some (.int .i64 y.time)) := fun W p => by rw [hnd] at p; exact p.cell rfl
 have C22s4 : Hid (∀ W : World, Blk W w.heap.size 195 nd -> W.cell? ⟨w.heap.size, 22 + 4, none⟩ = some (.slice y.dA y.ds.length y.dc)) := fun W p => by rw [hnd] at p; exact p.cell rfl
 have C22s5 : Hid (∀ W : World, Blk W w.heap.size 195 nd -> W.cell? ⟨w.heap.size, 22 + 5, none⟩ = some (.slice y.lA y.ls.length y.lc)) := fun W p => by rw [hnd] at p; exact p.cell rfl
 have C28s1 : Hid (∀ W : World, Blk W w.heap.size 195 nd -> W.cell? ⟨w.heap.size, 28 + 1, none⟩ = some (.int .i64 su)) := fun W p => by rw [hnd] at p; exact p.cell rfl
 have HI : Hid ((Tryz.prog.info? 195).map (·.size) = some nd.size) := by show _ = _; rw [hnd]; kernel_rfl
 have B0 := hidP (show Below w.heap.size w (w.alloc (.cells nd 195)).drew from Below.drew (Qab (Below.refl _ _) _))
 have P0 := hidP (show Blk (w.alloc (.cells nd 195)).drew w.heap.size 195 nd from Blk.new w 195 nd)
 simp only [← hnd] at E7 E12
 generalize Qbc base l = ln at E8 E9
 generalize peerB rpcF ro wi le ke id te vo base bt l x role vn nn pn ns ps com y su db.length hs size = bz at hF ⊢
 clear h1 h2 h3 h4 h5 h6 h7 h9 h10 h11 h12 hA hr hx hN hP hy hH hR hax hay hnn hpn
 go_enter Tryz.func126, Tryz.ntmps126
 go_wp2_with fail
 simp only [← hnd]
 clear hnd
 dsimp only [List.append]
 refine wp_region_noPanic ?_
 refine zBeg 71 (S := (fun (W : World) => Blk W w.heap.size 195 nd)) (by kernel_rfl) ?_ (by as_aux_lemma => kernel_rfl) (fun HQ hH => ?_)
 . exact P0.out
 refine ztk [0] ?_; repeat (refine ztn (h := ?_); try simp only [zX,zY])
 refine zte ?_
 refine zt1 1 ?_; refine ztn (hy := by (intro w' hSw; have d15 := C15.out w' hSw; go_simp<;>with_reducible rfl)) (h := ?_); try simp only [zX,zY]
 refine zte ?_
 refine zR1 2 (fun K hK => ?_)
 simp only [zG]
 go_simp
 (refine (E1.out _).mono ?_; rintro e w1 ⟨rfl, hw1⟩; subst w1)
 refine hK.out _ _ P0.out fun hH => ?_; clear hK K; try simp only [zX,zY]
 cases b1
 . refine zNo 3 71 2 HQ.out (fun a' ha hd => ?_)
   obtain ⟨tm, df⟩ := a'
   go_wp2
   exact bodyPost_ret (v := .bool false) (by simp only [results, Tryz.results126]; simpa using ha) (by first | rfl | exact hd) ⟨by rw [hF.out]; simp, B0.out⟩
 refine ztk [3,4] ?_; repeat (refine ztn (h := ?_); try simp only [zX,zY])
 refine zte ?_
 refine zt1 5 ?_; refine ztn (hy := by (intro w' hSw; have d16 := C16.out w' hSw; go_simp<;>with_reducible rfl)) (h := ?_); try simp only [zX,zY]
 refine zte ?_
 refine ztk [6] ?_; repeat (refine ztn (h := ?_); try simp only [zX,zY])
 refine zte ?_
 refine zt1 7 ?_; refine ztn (hy := by (intro w' hSw; have d15 := C15.out w' hSw; go_simp<;>with_reducible rfl)) (h := ?_); try simp only [zX,zY]
 refine zte ?_
 refine zR1 8 (fun K hK => ?_)
 simp only [zG]
 go_simp
 (refine (E2.out _).mono ?_; rintro e w2 ⟨rfl, g⟩; replace B0 := hidP (via0 g B0.out); replace P0 := hidP (P0.out.below g P0.out.lt); clear g)
 refine hK.out _ _ P0.out fun hH => ?_; clear hK K; try simp only [zX,zY]
 cases b2
 . refine zNo 9 71 2 HQ.out (fun a' ha hd => ?_)
   obtain ⟨tm, df⟩ := a'
   go_wp2
   exact bodyPost_ret (v := .bool false) (by simp only [results, Tryz.results126]; simpa using ha) (by first | rfl | exact hd) ⟨by rw [hF.out]; simp, B0.out⟩
 refine ztk [9,10,11] ?_; repeat (refine ztn (h := ?_); try simp only [zX,zY])
 refine zte ?_
 refine zt1 12 ?_; refine ztn (hy := by (intro w' hSw; have d11 := C11.out w' hSw; have d11s1 := C11s1.out w' hSw; have d11s2 := C11s2.out w' hSw; have d11s3 := C11s3.out w' hSw; go_simp<;>with_reducible rfl)) (h := ?_); try simp only [zX,zY]
 refine zte ?_
 refine ztk [13] ?_; repeat (refine ztn (h := ?_); try simp only [zX,zY])
 refine zte ?_
 refine zt1 14 ?_; refine ztn (hy := by (intro w' hSw; have d0 := C0.out w' hSw; have d1 := C1.out w' hSw; have d2 := C2.out w' hSw; have d3 := C3.out w' hSw; have d4 := C4.out w' hSw; have d5 := C5.out w' hSw; have d6 := C6.out w' hSw; have d7 := C7.out w' hSw; have d8 := C8.out w' hSw; have d9 := C9.out w' hSw; have d10 := C10.out w' hSw; go_simp<;>with_reducible rfl)) (h := ?_); try simp only [zX,zY]
 refine zte ?_
 refine zR1 15 (fun K hK => ?_)
 simp only [zG]
 go_simp
 (refine (E3.out _ B0.out).mono ?_; rintro e w3 ⟨rfl, g⟩; replace B0 := hidP (via0 g B0.out); replace P0 := hidP (P0.out.below g P0.out.lt); clear g)
 refine hK.out _ _ P0.out fun hH => ?_; clear hK K; try simp only [zX,zY]
 cases b3
 . refine zNo 16 71 2 HQ.out (fun a' ha hd => ?_)
   obtain ⟨tm, df⟩ := a'
   go_wp2
   exact bodyPost_ret (v := .bool false) (by simp only [results, Tryz.results126]; simpa using ha) (by first | rfl | exact hd) ⟨by rw [hF.out]; simp, B0.out⟩
 replace E7 := hidP (E7.out rfl)
 refine ztk [16,17,18,19] ?_; repeat (refine ztn (h := ?_); try simp only [zX,zY])
 refine zte ?_
 refine zt1 20 ?_; refine ztn (hy := by (intro w' hSw; have d1 := C1.out w' hSw; go_simp<;>with_reducible rfl)) (h := ?_); try simp only [zX,zY]
 refine zte ?_
 refine ztk [21] ?_; repeat (refine ztn (h := ?_); try simp only [zX,zY])
 refine zte ?_
 refine zt1 22 ?_; refine ztn (hy := by (intro w' hSw; have d15 := C15.out w' hSw; go_simp<;>with_reducible rfl)) (h := ?_); try simp only [zX,zY]
 refine zte ?_
 cases b4
 . have h4 : ¬ vo < size := of_decide_eq_false Q4.out
   refine ztk [23] ?_; repeat (refine ztn (h := ?_); try simp only [zX,zY])
   refine zte ?_
   clear h4
   refine zNo 24 71 2 HQ.out (fun a' ha hd => ?_)
   obtain ⟨tm, df⟩ := a'
   go_wp2
   exact bodyPost_ret (v := .bool false) (by simp only [results, Tryz.results126]; simpa using ha) (by first | rfl | exact hd) ⟨by rw [hF.out]; simp, B0.out⟩
 have h4 : vo < size := of_decide_eq_true Q4.out
 refine ztk [23] ?_; repeat (refine ztn (h := ?_); try simp only [zX,zY])
 refine zte ?_
 clear h4
 refine ztk [24,25,26] ?_; repeat (refine ztn (h := ?_); try simp only [zX,zY])
 refine zte ?_
 refine zt1 27 ?_; refine ztn (hy := by (intro w' hSw; have d17 := C17.out w' hSw; go_simp<;>with_reducible rfl)) (h := ?_); try simp only [zX,zY]
 refine zte ?_
 refine zR1 28 (fun K hK => ?_)
 simp only [zG]
 go_simp
 (refine (E5.out _).mono ?_; rintro e w1 ⟨rfl, hw1⟩; subst w1)
 refine hK.out _ _ P0.out fun hH => ?_; clear hK K; try simp only [zX,zY]
 cases b5
 . refine zNo 29 71 2 HQ.out (fun a' ha hd => ?_)
   obtain ⟨tm, df⟩ := a'
   go_wp2
   exact bodyPost_ret (v := .bool false) (by simp only [results, Tryz.results126]; simpa using ha) (by first | rfl | exact hd) ⟨by rw [hF.out]; simp, B0.out⟩
 refine ztk [29,30,31] ?_; repeat (refine ztn (h := ?_); try simp only [zX,zY])
 refine zte ?_
 refine zt1 32 ?_; refine ztn (hy := by (intro w' hSw; have d18 := C18.out w' hSw; go_simp<;>with_reducible rfl)) (h := ?_); try simp only [zX,zY]
 refine zte ?_
 refine ztk [33,34] ?_; repeat (refine ztn (h := ?_); try simp only [zX,zY])
 refine zte ?_
 refine zt1 35 ?_; refine ztn (hy := by (intro w' hSw; have d15 := C15.out w' hSw; go_simp<;>with_reducible rfl)) (h := ?_); try simp only [zX,zY]
 refine zte ?_
 cases b6
 . have q6 : ((vn : Int) == size) = false := Q6.out
   refine ztk [36] ?_; repeat (refine ztn (h := ?_); try simp only [zX,zY])
   refine zte ?_
   clear q6
   refine zNo 37 71 2 HQ.out (fun a' ha hd => ?_)
   obtain ⟨tm, df⟩ := a'
   go_wp2
   exact bodyPost_ret (v := .bool false) (by simp only [results, Tryz.results126]; simpa using ha) (by first | rfl | exact hd) ⟨by rw [hF.out]; simp, B0.out⟩
 have q6 : ((vn : Int) == size) = true := Q6.out
 refine ztk [36] ?_; repeat (refine ztn (h := ?_); try simp only [zX,zY])
 refine zte ?_
 clear q6
 refine ztk [37,38] ?_; repeat (refine ztn (h := ?_); try simp only [zX,zY])
 refine zte ?_
 refine zt1 39 ?_; refine ztn (hy := fun w' hSw => Qcf rfl rfl hSw Tryz.underlying195 HI.out) (h := ?_); try simp only [zX,zY]
 refine zte ?_
 refine zR1 40 (fun K hK => ?_)
 simp only [zG]
 go_simp
 (refine (E7.out _ B0.out).mono ?_; rintro e w7 ⟨rfl, g⟩; replace B0 := hidP (via0 g B0.out); replace P0 := hidP (P0.out.below g P0.out.lt); clear g)
 refine hK.out _ _ P0.out fun hH => ?_; clear hK K; try simp only [zX,zY]
 cases b7
 . refine zNo 41 71 2 HQ.out (fun a' ha hd => ?_)
   obtain ⟨tm, df⟩ := a'
   go_wp2
   exact bodyPost_ret (v := .bool false) (by simp only [results, Tryz.results126]; simpa using ha) (by first | rfl | exact hd) ⟨by rw [hF.out]; simp, B0.out⟩
 refine ztk [41,42,43] ?_; repeat (refine ztn (h := ?_); try simp only [zX,zY])
 refine zte ?_
 refine zt1 44 ?_; refine ztn (hy := by (intro w' hSw; have d21 := C21.out w' hSw; go_simp<;>with_reducible rfl)) (h := ?_); try simp only [zX,zY]
 refine zte ?_
 refine ztk [45,46,47] ?_; repeat (refine ztn (h := ?_); try simp only [zX,zY])
 refine zte ?_
 refine zt1 48 ?_; refine ztn (hy := by (intro w' hSw; have d2 := C2.out w' hSw; go_simp<;>with_reducible rfl)) (h := ?_); try simp only [zX,zY]
 refine zte ?_
 refine ztk [49] ?_; repeat (refine ztn (h := ?_); try simp only [zX,zY])
 refine zte ?_
 refine zt1 50 ?_; refine ztn (hy := by (intro w' hSw; have d0 := C0.out w' hSw; have d1 := C1.out w' hSw; have d2 := C2.out w' hSw; have d3 := C3.out w' hSw; have d4 := C4.out w' hSw; have d5 := C5.out w' hSw; have d6 := C6.out w' hSw; have d7 := C7.out w' hSw; have d8 := C8.out w' hSw; have d9 := C9.out w' hSw; have d10 := C10.out w' hSw; go_simp<;>with_reducible rfl)) (h := ?_); try simp only [zX,zY]
 refine zte ?_
 refine zR1 51 (fun K hK => ?_)
 simp only [zG]
 go_simp
 (refine (E8.out _ B0.out).mono ?_; rintro e w8 ⟨rfl, g⟩; replace B0 := hidP (via0 g B0.out); replace P0 := hidP (P0.out.below g P0.out.lt); clear g)
 refine hK.out _ _ P0.out fun hH => ?_; clear hK K; try simp only [zX,zY]
 refine zR1 52 (fun K hK => ?_)
 simp only [zG]
 go_simp
 (refine (E9.out _).mono ?_; rintro e w1 ⟨rfl, hw1⟩; subst w1)
 refine hK.out _ _ P0.out fun hH => ?_; clear hK K; try simp only [zX,zY]
 cases b9
 . refine zNo 53 71 2 HQ.out (fun a' ha hd => ?_)
   obtain ⟨tm, df⟩ := a'
   go_wp2
   exact bodyPost_ret (v := .bool false) (by simp only [results, Tryz.results126]; simpa using ha) (by first | rfl | exact hd) ⟨by rw [hF.out]; simp, B0.out⟩
 refine ztk [53,54,55] ?_; repeat (refine ztn (h := ?_); try simp only [zX,zY])
 refine zte ?_
 refine zt1 56 ?_; refine ztn (hy := by (intro w' hSw; have d11 := C11.out w' hSw; have d11s1 := C11s1.out w' hSw; have d11s2 := C11s2.out w' hSw; have d11s3 := C11s3.out w' hSw; go_simp<;>with_reducible rfl)) (h := ?_); try simp only [zX,zY]
 refine zte ?_
 refine ztk [57] ?_; repeat (refine ztn (h := ?_); try simp only [zX,zY])
 refine zte ?_
 refine zt1 58 ?_; refine ztn (hy := by (intro w' hSw; have d22 := C22.out w' hSw; have d22s1 := C22s1.out w' hSw; have d22s2 := C22s2.out w' hSw; have d22s3 := C22s3.out w' hSw; have d22s4 := C22s4.out w' hSw; have d22s5 := C22s5.out w' hSw; go_simp<;>with_reducible rfl)) (h := ?_); try simp only [zX,zY]
 refine zte ?_
 refine zR1 59 (fun K hK => ?_)
 simp only [zG]
 go_simp
 (refine (E10.out _ B0.out).mono ?_; rintro e w10 ⟨rfl, g⟩; replace B0 := hidP (via0 g B0.out); replace P0 := hidP (P0.out.below g P0.out.lt); clear g)
 refine hK.out _ _ P0.out fun hH => ?_; clear hK K; try simp only [zX,zY]
 cases b10
 . refine zNo 60 71 2 HQ.out (fun a' ha hd => ?_)
   obtain ⟨tm, df⟩ := a'
   go_wp2
   exact bodyPost_ret (v := .bool false) (by simp only [results, Tryz.results126]; simpa using ha) (by first | rfl | exact hd) ⟨by rw [hF.out]; simp, B0.out⟩
 refine ztk [60,61,62] ?_; repeat (refine ztn (h := ?_); try simp only [zX,zY])
 refine zte ?_
 refine zt1 63 ?_; refine ztn (hy := by (intro w' hSw; have d28 := C28.out w' hSw; have d28s1 := C28s1.out w' hSw; go_simp<;>with_reducible rfl)) (h := ?_); try simp only [zX,zY]
 refine zte ?_
 refine zR1 64 (fun K hK => ?_)
 simp only [zG]
 go_simp
 (refine (E11.out _).mono ?_; rintro e w11 ⟨rfl, g⟩; replace B0 := hidP (via0 g B0.out); replace P0 := hidP (P0.out.below g P0.out.lt); clear g)
 refine hK.out _ _ P0.out fun hH => ?_; clear hK K; try simp only [zX,zY]
 cases b11
 . refine zNo 65 71 2 HQ.out (fun a' ha hd => ?_)
   obtain ⟨tm, df⟩ := a'
   go_wp2
   exact bodyPost_ret (v := .bool false) (by simp only [results, Tryz.results126]; simpa using ha) (by first | rfl | exact hd) ⟨by rw [hF.out]; simp, B0.out⟩
 refine ztk [65,66] ?_; repeat (refine ztn (h := ?_); try simp only [zX,zY])
 refine zte ?_
 refine zt1 67 ?_; refine ztn (hy := fun w' hSw => Qcf rfl rfl hSw Tryz.underlying195 HI.out) (h := ?_); try simp only [zX,zY]
 refine zte ?_
 refine zR1 68 (fun K hK => ?_)
 simp only [zG]
 go_simp
 (refine (E12.out _ B0.out).mono ?_; rintro e w12 ⟨rfl, g⟩; replace B0 := hidP (via0 g B0.out); replace P0 := hidP (P0.out.below g P0.out.lt); clear g)
 refine hK.out _ _ P0.out fun hH => ?_; clear hK K; try simp only [zX,zY]
 cases b12
 . refine zNo 69 71 2 HQ.out (fun a' ha hd => ?_)
   obtain ⟨tm, df⟩ := a'
   go_wp2
   exact bodyPost_ret (v := .bool false) (by simp only [results, Tryz.results126]; simpa using ha) (by first | rfl | exact hd) ⟨by rw [hF.out]; simp, B0.out⟩
 refine ztk [69,70] ?_; repeat (refine ztn (h := ?_); try simp only [zX,zY])
 refine zte ?_
 refine zdn ?_
 go_wp2
 go_ret
 exact ⟨by rw [hF.out]; first | rfl | simp [*], B0.out⟩
end Go.Proofs.YtkmkldjipihceaaGreat.Gen
