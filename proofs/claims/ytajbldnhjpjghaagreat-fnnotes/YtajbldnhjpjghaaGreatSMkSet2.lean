/-
  The specification's MakerSet at this seat, walked. No condition but that there are at most 1048575.
-/
import Derived.Test.YtajbldnhjpjghaaGreatKCp2
set_option linter.unusedVariables false
set_option linter.unusedSimpArgs false
set_option maxRecDepth 100000
set_option maxHeartbeats 8000000
set_option maxRecDepth 100000
set_option maxHeartbeats 8000000
namespace Go.Proofs.YtajbldnhjpjghaaGreat.Gen
open ChangeShapes WideShapes ChangeAt RowKit Joins Deep Base
theorem Qgp (A:Option Addr) (cap:Nat) (l:List MC) (row who epoch last:Int) (xA:Option Addr) (xc:Nat) (ms:List Mk) (hl:l.length<=1048575) (hs:∀x∈l,x.ms.length<=1048576) (hms:ms.length<=1048576) (w:World) (hA:At w A l) (hE:Each w l) (hA2:At w xA ms):
 Calls Tryz.prog 128 #[.slice A l.length cap,.agg (Qal row who epoch last xA ms.length xc)] w fun e w' =>∃g c O,e= .returned (.slice (some ⟨g,0,none⟩) O.length c)/\O.map MC.p=setS (l.map MC.p) ⟨row,who,epoch,last,ms⟩/\Out w.heap.size w' (.slice (some ⟨g,0,none⟩) O.length c) O/\Below w.heap.size w w' :=by
 have HA:=hidP hA;have HE:=hidP hE;have HA2:=hidP hA2;have Hs:=hidP hs;clear hA hE hA2 hs;have M0:Hid (MS w ((w.alloc (.cells (Qal row who epoch last xA ms.length xc) 139)).alloc (.cells #[] 139)) (Qal row who epoch last xA ms.length xc) (.slice (some ⟨w.heap.size+1,0,none⟩) 0 0) []):=by
  refine⟨by repeat(first|exact Below.refl _ _|assumption|refine via0 (by assumption) ?_|refine Below.drew ?_|refine Qad ?_ _),(Blk.new w 139 (Qal row who epoch last xA ms.length xc)).alloc _,⟨⟨rfl,.inr ⟨w.heap.size+1,0,#[],rfl,Nat.le_refl _,?_,Nat.le_refl _,by simp[maxLen],rfl,rfl⟩⟩,by simp⟩⟩;have:=Qfk (w.alloc (.cells (Qal row who epoch last xA ms.length xc) 139)) (.cells #[] 139);simpa only[World.size_alloc]using this
 go_enter Tryz.func128,Tryz.ntmps128;go_wp2
 go_loopw [5,6,7] (fun v p i W=>∃(n:Nat) (O:List MC) (g c:Nat) (put:Bool),v= .slice (some ⟨g,0,none⟩) O.length c/\p= .bool put/\i= .int .i64 (n:Int)/\n<=l.length/\O.length<=n+put.toNat/\Hid (MS w W (Qal row who epoch last xA ms.length xc) (.slice (some ⟨g,0,none⟩) O.length c) O)/\Hid (Qex ⟨row,who,epoch,last,ms⟩ ((l.map MC.p).take n)=(O.map MC.p,put))) (fun _ _ i _=>l.length - (intOf i).toNat)
 case atStart=>exact⟨0,[],w.heap.size+1,0,false,rfl,rfl,rfl,by omega,by simp,M0,rfl⟩
 case round=>
  obtain⟨n,O,g,c,put,rfl,rfl,rfl,hn,hOl,M,HF⟩:=hrel;obtain⟨k0,k1,k2,k3,k4⟩:=M.out.box.row5;have kl:=M.out.box.lt;have hpt:put.toNat<=1:=by cases put<;>simp
  by_cases hlt:n<l.length
  . obtain⟨b,o,rfl,hbs,hIn⟩:∃b o,A=some ⟨b,o,none⟩/\b<w.heap.size/\In w b o l:=by
     rcases HA.out with h|h
     . subst h;simp at hlt
     . exact h
    obtain⟨u0,u1,u2,u3,u4⟩:=(hIn.below hbs M.out.bl).getMC n hlt;have hym:=Hs.out _ (List.getElem_mem hlt);have hAy:=HE.out _ (List.getElem_mem hlt);have hx:(l.map MC.p)[n]'(by simpa using hlt)=l[n].p:=(by simp);generalize l[n]=y at u0 u1 u2 u3 u4 hym hAy hx;obtain⟨yr,yw,ye,yl,yA,yc,ym⟩:=y;simp only at u0 u1 u2 u3 u4 hym hAy;have HAy:=hidP hAy;have Hx:=hidP hx;have MX0:=hidP (M.out.below (Qad (Below.refl _ wr) (.cells (Qal yr yw ye yl yA ym.length yc) 139)));have bx:=Blk.new wr 139 (Qal yr yw ye yl yA ym.length yc);have hne:(Value.slice (some ⟨g,0,none⟩) O.length c).ownBlock≠some wr.heap.size:=fun e=>by have:=Qjf M.out.out.own _ e;omega
    obtain⟨x0,x1,x2,x3,x4⟩:=bx.row5;clear hAy hx hIn;by_cases e1:yr=row
    . have b1:(yr==row)=true:=(by simp[e1]);by_cases e2:yw=who
      . have b2:(yw==who)=true:=(by simp[e2]);cases put
        . (try simp only[Bool.toNat_false,Bool.toNat_true,Nat.add_zero]at hOl)
          have HF' :Hid (Qex ⟨row,who,epoch,last,ms⟩ ((l.map MC.p).take (n+1))=(O.map MC.p++ [(⟨row,who,epoch,last,ms⟩:PM)],true)):=by
           show _=_;rw[Qcz _ _ _ (by simpa using hlt),HF.out,Hx.out];simp[Qei,MC.p,behK,e1,e2]
          clear e1;clear e2;go_wp2_with fail;refine(Qbb row who epoch last xA xc ms hms _ (HA2.out.below MX0.out.bl)).mono ?_;rintro e w2 ⟨v2,rfl,ho2,g2⟩;obtain⟨a2,c2,rfl,_⟩:=Qao ho2;obtain⟨h2,d2,y2,hr2,N2,hk2⟩:=MX0.out.app (row:=row) (who:=who) (epoch:=epoch) (last:=last) g2 ho2 (by omega);have M2:=hidP N2;clear ho2 g2 N2;go_wp2_with (at_builtin;refine Qac rfl _ _ _ rfl _ _ _ rfl rfl hr2 ?_);exact⟨⟨n+1,O++ [(⟨row,who,epoch,last,a2,c2,ms⟩:MC)],h2,d2,true,by simp,rfl,by go_num,by omega,by simp;omega,(show Hid (MS w _ (Qal row who epoch last xA ms.length xc) (.slice (some ⟨h2,0,none⟩) (O++ [(⟨row,who,epoch,last,a2,c2,ms⟩:MC)]).length d2) (O++ [(⟨row,who,epoch,last,a2,c2,ms⟩:MC)]))from by rw[List.length_append];exact M2),by rw[List.map_append];exact HF'⟩,by simp[intOf];omega⟩
        . (try simp only[Bool.toNat_false,Bool.toNat_true,Nat.add_zero]at hOl)
          have HF' :Hid (Qex ⟨row,who,epoch,last,ms⟩ ((l.map MC.p).take (n+1))=(O.map MC.p,true)):=by
           show _=_;rw[Qcz _ _ _ (by simpa using hlt),HF.out,Hx.out];simp[Qei,MC.p,behK,e1,e2]
          clear e1;clear e2;go_wp2;exact⟨⟨n+1,O,g,c,true,by simp,rfl,by go_num,by omega,by simp;omega,MX0,HF'⟩,by simp[intOf];omega⟩
      . have b2:(yw==who)=false:=(by simp[e2]);cases put
        . have b3:decide (yr>row)=false:=(by simp[e1]);by_cases e3:yw>who
          . have b4:decide (yw>who)=true:=by simp[e3]
            (try simp only[Bool.toNat_false,Bool.toNat_true,Nat.add_zero]at hOl)
            have HF' :Hid (Qex ⟨row,who,epoch,last,ms⟩ ((l.map MC.p).take (n+1))=(O.map MC.p++ [(⟨row,who,epoch,last,ms⟩:PM)]++ [(⟨yr,yw,ye,yl,ym⟩:PM)],true)):=by
             show _=_;rw[Qcz _ _ _ (by simpa using hlt),HF.out,Hx.out];simp[Qei,MC.p,behK,e1,e2,e3]
            clear e1;clear e2;clear e3;go_wp2_with fail;refine(Qbb row who epoch last xA xc ms hms _ (HA2.out.below MX0.out.bl)).mono ?_;rintro e w2 ⟨v2,rfl,ho2,g2⟩;obtain⟨a2,c2,rfl,_⟩:=Qao ho2;obtain⟨h2,d2,y2,hr2,N2,hk2⟩:=MX0.out.app (row:=row) (who:=who) (epoch:=epoch) (last:=last) g2 ho2 (by omega);have M2:=hidP N2;have bx2:=hk2 _ _ bx hne;obtain⟨z0,z1,z2,z3,z4⟩:=bx2.1.row5;have zl:=bx2.1.lt;clear x0 x1 x2 x3 x4;clear ho2 g2 N2;go_wp2_with (at_builtin;refine Qac rfl _ _ _ rfl _ _ _ rfl rfl hr2 ?_);refine(Qbb yr yw ye yl yA yc ym hym _ (HAy.out.below M2.out.bl)).mono ?_;rintro e w3 ⟨v3,rfl,ho3,g3⟩;obtain⟨a3,c3,rfl,_⟩:=Qao ho3;obtain⟨h3,d3,y3,hr3,N3,hk3⟩:=M2.out.app (row:=yr) (who:=yw) (epoch:=ye) (last:=yl) g3 ho3 (by simp;omega);have M3:=hidP N3;clear ho3 g3 N3;go_wp2_with (at_builtin;refine Qac rfl _ _ _ rfl _ _ _ rfl rfl hr3 ?_);exact⟨⟨n+1,O++ [(⟨row,who,epoch,last,a2,c2,ms⟩:MC)]++ [(⟨yr,yw,ye,yl,a3,c3,ym⟩:MC)],h3,d3,true,by simp,rfl,by go_num,by omega,by simp;omega,(show Hid (MS w _ (Qal row who epoch last xA ms.length xc) (.slice (some ⟨h3,0,none⟩) (O++ [(⟨row,who,epoch,last,a2,c2,ms⟩:MC)]++ [(⟨yr,yw,ye,yl,a3,c3,ym⟩:MC)]).length d3) (O++ [(⟨row,who,epoch,last,a2,c2,ms⟩:MC)]++ [(⟨yr,yw,ye,yl,a3,c3,ym⟩:MC)]))from by rw[List.length_append];exact M3),by rw[List.map_append,List.map_append];exact HF'⟩,by simp[intOf];omega⟩
          . have b4:decide (yw>who)=false:=by simp;omega
            (try simp only[Bool.toNat_false,Bool.toNat_true,Nat.add_zero]at hOl)
            have HF' :Hid (Qex ⟨row,who,epoch,last,ms⟩ ((l.map MC.p).take (n+1))=(O.map MC.p++ [(⟨yr,yw,ye,yl,ym⟩:PM)],false)):=by
             show _=_;rw[Qcz _ _ _ (by simpa using hlt),HF.out,Hx.out];simp[Qei,MC.p,behK,e1,e2,e3]
            clear e1;clear e2;clear e3;go_wp2_with fail;refine(Qbb yr yw ye yl yA yc ym hym _ (HAy.out.below MX0.out.bl)).mono ?_;rintro e w3 ⟨v3,rfl,ho3,g3⟩;obtain⟨a3,c3,rfl,_⟩:=Qao ho3;obtain⟨h3,d3,y3,hr3,N3,hk3⟩:=MX0.out.app (row:=yr) (who:=yw) (epoch:=ye) (last:=yl) g3 ho3 (by omega);have M3:=hidP N3;clear ho3 g3 N3;go_wp2_with (at_builtin;refine Qac rfl _ _ _ rfl _ _ _ rfl rfl hr3 ?_);exact⟨⟨n+1,O++ [(⟨yr,yw,ye,yl,a3,c3,ym⟩:MC)],h3,d3,false,by simp,rfl,by go_num,by omega,by simp;omega,(show Hid (MS w _ (Qal row who epoch last xA ms.length xc) (.slice (some ⟨h3,0,none⟩) (O++ [(⟨yr,yw,ye,yl,a3,c3,ym⟩:MC)]).length d3) (O++ [(⟨yr,yw,ye,yl,a3,c3,ym⟩:MC)]))from by rw[List.length_append];exact M3),by rw[List.map_append];exact HF'⟩,by simp[intOf];omega⟩
        . (try simp only[Bool.toNat_false,Bool.toNat_true,Nat.add_zero]at hOl)
          have HF' :Hid (Qex ⟨row,who,epoch,last,ms⟩ ((l.map MC.p).take (n+1))=(O.map MC.p++ [(⟨yr,yw,ye,yl,ym⟩:PM)],true)):=by
           show _=_;rw[Qcz _ _ _ (by simpa using hlt),HF.out,Hx.out];simp[Qei,MC.p,behK,e1,e2]
          clear e1;clear e2;go_wp2_with fail;refine(Qbb yr yw ye yl yA yc ym hym _ (HAy.out.below MX0.out.bl)).mono ?_;rintro e w3 ⟨v3,rfl,ho3,g3⟩;obtain⟨a3,c3,rfl,_⟩:=Qao ho3;obtain⟨h3,d3,y3,hr3,N3,hk3⟩:=MX0.out.app (row:=yr) (who:=yw) (epoch:=ye) (last:=yl) g3 ho3 (by omega);have M3:=hidP N3;clear ho3 g3 N3;go_wp2_with (at_builtin;refine Qac rfl _ _ _ rfl _ _ _ rfl rfl hr3 ?_);exact⟨⟨n+1,O++ [(⟨yr,yw,ye,yl,a3,c3,ym⟩:MC)],h3,d3,true,by simp,rfl,by go_num,by omega,by simp;omega,(show Hid (MS w _ (Qal row who epoch last xA ms.length xc) (.slice (some ⟨h3,0,none⟩) (O++ [(⟨yr,yw,ye,yl,a3,c3,ym⟩:MC)]).length d3) (O++ [(⟨yr,yw,ye,yl,a3,c3,ym⟩:MC)]))from by rw[List.length_append];exact M3),by rw[List.map_append];exact HF'⟩,by simp[intOf];omega⟩
    . have b1:(yr==row)=false:=(by simp[e1]);cases put
      . by_cases e3:yr>row
        . have b3:decide (yr>row)=true:=by simp[e3]
          (try simp only[Bool.toNat_false,Bool.toNat_true,Nat.add_zero]at hOl)
          have HF' :Hid (Qex ⟨row,who,epoch,last,ms⟩ ((l.map MC.p).take (n+1))=(O.map MC.p++ [(⟨row,who,epoch,last,ms⟩:PM)]++ [(⟨yr,yw,ye,yl,ym⟩:PM)],true)):=by
           show _=_;rw[Qcz _ _ _ (by simpa using hlt),HF.out,Hx.out];simp[Qei,MC.p,behK,e1,e3]
          clear e1;clear e3;go_wp2_with fail;refine(Qbb row who epoch last xA xc ms hms _ (HA2.out.below MX0.out.bl)).mono ?_;rintro e w2 ⟨v2,rfl,ho2,g2⟩;obtain⟨a2,c2,rfl,_⟩:=Qao ho2;obtain⟨h2,d2,y2,hr2,N2,hk2⟩:=MX0.out.app (row:=row) (who:=who) (epoch:=epoch) (last:=last) g2 ho2 (by omega);have M2:=hidP N2;have bx2:=hk2 _ _ bx hne;obtain⟨z0,z1,z2,z3,z4⟩:=bx2.1.row5;have zl:=bx2.1.lt;clear x0 x1 x2 x3 x4;clear ho2 g2 N2;go_wp2_with (at_builtin;refine Qac rfl _ _ _ rfl _ _ _ rfl rfl hr2 ?_);refine(Qbb yr yw ye yl yA yc ym hym _ (HAy.out.below M2.out.bl)).mono ?_;rintro e w3 ⟨v3,rfl,ho3,g3⟩;obtain⟨a3,c3,rfl,_⟩:=Qao ho3;obtain⟨h3,d3,y3,hr3,N3,hk3⟩:=M2.out.app (row:=yr) (who:=yw) (epoch:=ye) (last:=yl) g3 ho3 (by simp;omega);have M3:=hidP N3;clear ho3 g3 N3;go_wp2_with (at_builtin;refine Qac rfl _ _ _ rfl _ _ _ rfl rfl hr3 ?_);exact⟨⟨n+1,O++ [(⟨row,who,epoch,last,a2,c2,ms⟩:MC)]++ [(⟨yr,yw,ye,yl,a3,c3,ym⟩:MC)],h3,d3,true,by simp,rfl,by go_num,by omega,by simp;omega,(show Hid (MS w _ (Qal row who epoch last xA ms.length xc) (.slice (some ⟨h3,0,none⟩) (O++ [(⟨row,who,epoch,last,a2,c2,ms⟩:MC)]++ [(⟨yr,yw,ye,yl,a3,c3,ym⟩:MC)]).length d3) (O++ [(⟨row,who,epoch,last,a2,c2,ms⟩:MC)]++ [(⟨yr,yw,ye,yl,a3,c3,ym⟩:MC)]))from by rw[List.length_append];exact M3),by rw[List.map_append,List.map_append];exact HF'⟩,by simp[intOf];omega⟩
        . have b3:decide (yr>row)=false:=by simp;omega
          (try simp only[Bool.toNat_false,Bool.toNat_true,Nat.add_zero]at hOl)
          have HF' :Hid (Qex ⟨row,who,epoch,last,ms⟩ ((l.map MC.p).take (n+1))=(O.map MC.p++ [(⟨yr,yw,ye,yl,ym⟩:PM)],false)):=by
           show _=_;rw[Qcz _ _ _ (by simpa using hlt),HF.out,Hx.out];simp[Qei,MC.p,behK,e1,e3]
          clear e1;clear e3;go_wp2_with fail;refine(Qbb yr yw ye yl yA yc ym hym _ (HAy.out.below MX0.out.bl)).mono ?_;rintro e w3 ⟨v3,rfl,ho3,g3⟩;obtain⟨a3,c3,rfl,_⟩:=Qao ho3;obtain⟨h3,d3,y3,hr3,N3,hk3⟩:=MX0.out.app (row:=yr) (who:=yw) (epoch:=ye) (last:=yl) g3 ho3 (by omega);have M3:=hidP N3;clear ho3 g3 N3;go_wp2_with (at_builtin;refine Qac rfl _ _ _ rfl _ _ _ rfl rfl hr3 ?_);exact⟨⟨n+1,O++ [(⟨yr,yw,ye,yl,a3,c3,ym⟩:MC)],h3,d3,false,by simp,rfl,by go_num,by omega,by simp;omega,(show Hid (MS w _ (Qal row who epoch last xA ms.length xc) (.slice (some ⟨h3,0,none⟩) (O++ [(⟨yr,yw,ye,yl,a3,c3,ym⟩:MC)]).length d3) (O++ [(⟨yr,yw,ye,yl,a3,c3,ym⟩:MC)]))from by rw[List.length_append];exact M3),by rw[List.map_append];exact HF'⟩,by simp[intOf];omega⟩
      . (try simp only[Bool.toNat_false,Bool.toNat_true,Nat.add_zero]at hOl)
        have HF' :Hid (Qex ⟨row,who,epoch,last,ms⟩ ((l.map MC.p).take (n+1))=(O.map MC.p++ [(⟨yr,yw,ye,yl,ym⟩:PM)],true)):=by
         show _=_;rw[Qcz _ _ _ (by simpa using hlt),HF.out,Hx.out];simp[Qei,MC.p,behK,e1]
        clear e1;go_wp2_with fail;refine(Qbb yr yw ye yl yA yc ym hym _ (HAy.out.below MX0.out.bl)).mono ?_;rintro e w3 ⟨v3,rfl,ho3,g3⟩;obtain⟨a3,c3,rfl,_⟩:=Qao ho3;obtain⟨h3,d3,y3,hr3,N3,hk3⟩:=MX0.out.app (row:=yr) (who:=yw) (epoch:=ye) (last:=yl) g3 ho3 (by omega);have M3:=hidP N3;clear ho3 g3 N3;go_wp2_with (at_builtin;refine Qac rfl _ _ _ rfl _ _ _ rfl rfl hr3 ?_);exact⟨⟨n+1,O++ [(⟨yr,yw,ye,yl,a3,c3,ym⟩:MC)],h3,d3,true,by simp,rfl,by go_num,by omega,by simp;omega,(show Hid (MS w _ (Qal row who epoch last xA ms.length xc) (.slice (some ⟨h3,0,none⟩) (O++ [(⟨yr,yw,ye,yl,a3,c3,ym⟩:MC)]).length d3) (O++ [(⟨yr,yw,ye,yl,a3,c3,ym⟩:MC)]))from by rw[List.length_append];exact M3),by rw[List.map_append];exact HF'⟩,by simp[intOf];omega⟩
  . obtain rfl:n=l.length:=(by omega);rw[List.take_of_length_le (by simp)]at HF;cases put
    . have HF' :Hid (O.map MC.p++ [(⟨row,who,epoch,last,ms⟩:PM)]=setS (l.map MC.p) ⟨row,who,epoch,last,ms⟩):=by
       show _=_;unfold setS;rw[HF.out];simp[MC.p]
      go_wp2_with fail;refine(Qbb row who epoch last xA xc ms hms _ (HA2.out.below M.out.bl)).mono ?_;rintro e w2 ⟨v2,rfl,ho2,g2⟩;obtain⟨a2,c2,rfl,_⟩:=Qao ho2;obtain⟨h2,d2,y2,hr2,N2,hk2⟩:=M.out.app (row:=row) (who:=who) (epoch:=epoch) (last:=last) g2 ho2 (by simp at hOl;omega);have M2:=hidP N2;clear ho2 g2 N2;go_wp2_with (at_builtin;refine Qac rfl _ _ _ rfl _ _ _ rfl rfl hr2 ?_);go_ret;exact⟨h2,d2,O++ [(⟨row,who,epoch,last,a2,c2,ms⟩:MC)],by rw[List.length_append];rfl,by rw[List.map_append];exact HF'.out,⟨by have h:=M2.out.out.own;rw[List.length_append]at h ⊢;exact Qat h (by omega),fun x hx=>Qat (M2.out.out.each x hx) (by omega)⟩,M2.out.bl⟩
    . have HF' :Hid (O.map MC.p=setS (l.map MC.p) ⟨row,who,epoch,last,ms⟩):=by
       show _=_;unfold setS;rw[HF.out];simp
      go_wp2;go_ret;exact⟨g,c,O,rfl,HF'.out,⟨Qat M.out.out.own (by omega),fun x hx=>Qat (M.out.out.each x hx) (by omega)⟩,M.out.bl⟩
end Go.Proofs.YtajbldnhjpjghaaGreat.Gen
