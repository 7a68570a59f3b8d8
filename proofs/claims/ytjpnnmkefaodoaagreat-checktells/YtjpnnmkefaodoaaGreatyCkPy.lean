/-
  CkP, CkQ, CkR.
-/
import Derived.Test.YtjpnnmkefaodoaaGreatyLwEy
set_option maxHeartbeats 8000000
set_option maxRecDepth 100000
namespace Go.Proofs.YtjpnnmkefaodoaaGreat
open Go.RowKit Go.Maps Go.Great
set_option linter.unusedSimpArgs false
set_option linter.unusedVariables false
def CkSm (E:Nev)(res:Int × Bool)(x:Sm):Prop:=∀ (B:Nat) (w:World) (sb vb fb lb:Nat) (wd:Int) (L:Loc) (lp:Nat) (v:Sv),Sc B w sb vb fb lb wd E L res lp→SvL B w x v→SmF x→OpOk L→L.fr+4*(szS x:Int)≤1000000→lp+szS x≤1000000 →
 Calls Tryz.prog 52 #[.pointer (some ⟨sb,0,none⟩),.agg (smA x v)] w fun e w'=>ScR B w sb vb fb lb wd E res lp (ckS E res x lp L) e w'
structure Bk (B:Nat)(w W:World)(sb vb fb lb:Nat)(wd:Int)(E:Nev)(res:Int × Bool)(lp:Nat)(L M:Loc)(rest:List Sm):Prop where
 sc:Sc B W sb vb fb lb wd E M res lp
 wk:Wd9 B sb lb w W
 ok:OpOk M
 fr:M.fr+4*(szL rest:Int)≤1000000
 lp:lp+szL rest≤1000000
 le:L.op.length≤M.op.length
theorem cblock_any (E:Nev)(res:Int × Bool)(xs:List Sm)(IH:∀ y∈xs,CkSm E res y)(NM:∀ y∈xs,NmS y)(B:Nat)(w:World)(sb vb fb lb:Nat)(wd:Int)(L:Loc)(lp:Nat)(v:Value)(h:Sc B w sb vb fb lb wd E L res lp)(hx:SmL B w v xs)(ok:OpOk L)(hfr:L.fr+4*(szL xs:Int)≤1000000)(hlp:lp+szL xs≤1000000) :
  Calls Tryz.prog 31 #[.pointer (some ⟨sb,0,none⟩),v] w fun e w'=>ScR B w sb vb fb lb wd E res lp (hid L (ckL E res xs lp L)) e w':=by
 obtain⟨ao,cap,rfl,hmax,-⟩:=hx.at
 unfold maxLen at hmax
 have HX:=zH hx
 have HI:=zH IH
 have HN:=zH NM
 have c4:∃ va vc,w.cell? ⟨sb,4,none⟩=some (.slice va L.op.length vc):=by
  obtain⟨op,fr,m,hL⟩:∃ op fr m,L=⟨m,op,fr⟩:=⟨_,_,_,rfl⟩
  subst hL
  obtain⟨va,vc,n,h0,_⟩:=h.hz
  exact⟨va,vc,zC h0.bx 4 _ rfl⟩
 obtain⟨va,vc,c4⟩:=c4
 have hsb:=h.lts.1
 have hB:=h.hB
 have S0:=zH (show Bk B w w sb vb fb lb wd E res lp L L (xs.drop 0) from⟨h,Wd9.refl _ _ _ _,ok,hfr,hlp,Nat.le_refl _⟩)
 obtain⟨R,hR⟩:∃ R,R=ckL E res xs lp L:=⟨_,rfl⟩
 rw[← hR]
 have HR:=zH (show ckL E res (xs.drop 0) lp L=R from hR.symm)
 obtain⟨Q,hQ⟩:∃ Q,Q=hid L R:=⟨_,rfl⟩
 rw[← hQ]
 have HQ:=zH hQ
 clear hx IH NM h ok hfr hlp hR hQ
 go_enter_defers Tryz.func31,Tryz.ntmps31
 go_wp2_with fail
 go_loopg [16] xs.length (fun g y wr=>∃ (i:Nat) (M:Loc),i≤xs.length∧g=xs.length - i∧y=.int .i64 (i:Int)∧Hid (Bk B w wr sb vb fb lb wd E res lp L M (xs.drop i))∧Hid (ckL E res (xs.drop i) lp M=R))
 case atStart=>exact⟨0,L,Nat.zero_le _,rfl,rfl,S0,HR⟩
 case round =>
  clear S0 HR c4
  obtain⟨i,M,hi,hg,rfl,HC,HE⟩:=hrel
  generalize wr=W0 at *
  by_cases hlt:i<xs.length
  ·have hxw:=(uI HX).step (uI HC).wk.below
   obtain⟨b1,o1,sv,rfl,hbw,hra,hsv,hf⟩:=hxw.read i hlt
   have HRA:=zH hra
   have ONE:=zH hsv.one
   have hiI:(i:Int)<(xs.length:Int):=by omega
   have hi0:(0:Int)≤(i:Int):=by omega
   have HD:=zH (show xs.drop i=xs[i]::xs.drop (i+1) from List.drop_eq_getElem_cons hlt)
   have hAs:=zH (qak xs[i] sv)
   have hal:=qaa W0 (.cells (smA xs[i] sv) 103)
   have hle:=Nat.le_trans hB (uI HC).wk.wc.size
   have hc:=uI HC
   rw[uI HD] at hc HE
   have hfr:=hc.fr
   have hlp:=hc.lp
   rw[szL] at hfr hlp
   rw[ckL] at HE
   have GD:=zH (ckS_gd E res xs[i] (uI HN _ (List.getElem_mem hlt)) lp M)
   have CA:=zH ((uI HI _ (List.getElem_mem hlt)) B (W0.alloc (.cells (smA xs[i] sv) 103)) sb vb fb lb wd M lp sv (hc.sc.step hal) (hsv.step (hal.mono hle)) hf hc.ok (by omega) (by omega))
   have HB:=zH (show (W0.alloc (.cells (smA xs[i] sv) 103)).heap[W0.heap.size]?=some (.cells (smA xs[i] sv) 103 (0,0)) by show (W0.heap.push _)[W0.heap.size]?=_;simp)
   have WK:=zH (hc.wk.trans (Wd9.of hal hle))
   have NUM:=zH (show M.fr+4*((szS xs[i]+szL (xs.drop (i+1)):Nat):Int)≤1000000∧lp+(szS xs[i]+szL (xs.drop (i+1)))≤1000000∧OpOk M∧L.op.length≤M.op.length from⟨hfr,hlp,hc.ok,hc.le⟩)
   clear hra hxw hsv hf HD hc hfr hlp HC hal
   generalize xs[i]=y at *
   generalize smA y sv=A at *
   generalize ckS E res y lp M=T at *
   obtain⟨er,N⟩:=T
   go_wp2_with (first|(refine wpList_load_mid rfl 103 (.tmp 18) rfl b1 (o1+i*21) rfl A.toList _ (uI HRA) Tryz.underlying103 rfl (by rw[Array.length_toList,uI hAs];exact Tryz.sizeStat) ?_)|(refine wpList_store_row rfl 103 (.tmp 6) (.tmp 19) rfl W0.heap.size A rfl rfl _ _ (heapNew0 _ _) (by rw[uI hAs];exact Tryz.sizeStat) (by rw[uI hAs];rfl) (uI ONE) ?_;rw[qbp])|(refine wpList_load_row rfl 103 (.tmp 6) rfl W0.heap.size rfl _ A _ _ (uI HB) Tryz.underlying103 rfl (by rw[uI hAs];exact Tryz.sizeStat) ?_))
   refine (uI CA).mono ?_
   rintro e w1 ⟨rfl,sc1,k1⟩
   have SC:=zH (show Sc B w1 sb vb fb lb wd E N res lp from sc1)
   have WK1:=zH ((uI WK).trans k1)
   have GN:=zH (show Gd (szS y) M N from uI GD)
   clear CA sc1 k1 GD WK HRA ONE HB hAs
   by_cases her:er=0
   ·subst her
    go_wp2_with fail
    go_roundg (xs.length - (i+1))
    case measure=>omega
    case rel =>
     obtain⟨q1,q2,q3,q4⟩:=uI NUM
     obtain⟨g1,g2,g3,g4⟩:=uI GN
     exact⟨i+1,N,by omega,rfl,by go_num,zH ⟨uI SC,uI WK1,g3 q3,by omega,by omega,by omega⟩,zH (by have:=uI HE;simpa [thc] using this)⟩
   ·have hR:R=(er,N):=by have:=uI HE;unfold thc at this;rw[if_pos (by exact her)] at this;exact this.symm
    subst hR
    have hQ:=uI HQ
    subst hQ
    obtain⟨q1,q2,q3,q4⟩:=uI NUM
    obtain⟨g1,g2,g3,g4⟩:=uI GN
    have HH:=zH (hide_any .returning B w1 sb vb fb lb wd E N res lp L.op.length (uI SC) (by omega) (g3 q3) (by omega))
    clear q1 q2 q3 q4 g1 g2 g3 g4
    go_wp2_with fail
    refine leaves_cons (f:=51) (args:=#[.pointer (some ⟨sb,0,none⟩),.int .i64 (L.op.length:Int)]) (by simp) (by simp[go_sem]) ?_
    refine (uI HH).mono ?_
    rintro e u' w8 ⟨rfl,rfl,z8,k8⟩
    exact⟨_,results_tmp rfl _ _ _,rfl,z8,(uI WK1).trans k8⟩
  ·have hiI:¬ (i:Int)<(xs.length:Int):=by omega
   have hil:xs.drop i=[]:=List.drop_eq_nil_of_le (by omega)
   rw[hil] at HC HE
   clear hil
   have hR:R=(0,M):=by have:=uI HE;rw[ckL] at this;exact this.symm
   subst hR
   have hQ:=uI HQ
   subst hQ
   have hc:=uI HC
   have hM:=hc.fr
   have HH:=zH (hide_any .returning B W0 sb vb fb lb wd E M res lp L.op.length hc.sc hc.le hc.ok (by omega))
   clear hM hc
   go_wp2_with fail
   refine leaves_cons (f:=51) (args:=#[.pointer (some ⟨sb,0,none⟩),.int .i64 (L.op.length:Int)]) (by simp) (by simp[go_sem]) ?_
   refine (uI HH).mono ?_
   rintro e u' w8 ⟨rfl,rfl,z8,k8⟩
   exact⟨_,results_tmp rfl _ _ _,rfl,z8,(uI HC).wk.trans k8⟩
theorem cloop_any (E:Nev)(res:Int × Bool)(xs:List Sm)(IH:∀ y∈xs,CkSm E res y)(NM:∀ y∈xs,NmS y)(B:Nat)(w:World)(sb vb fb lb:Nat)(wd:Int)(L:Loc)(lp:Nat)(v:Value)(h:Sc B w sb vb fb lb wd E L res lp)(hx:SmL B w v xs)(ok:OpOk L)(hfr:L.fr+4*(szL xs:Int)≤1000000)(hlp:lp+1+szL xs≤1000000) :
  Calls Tryz.prog 96 #[.pointer (some ⟨sb,0,none⟩),v] w fun e w'=>ScR B w sb vb fb lb wd E res lp (hid L (ckL E res xs (lp+1) L)) e w':=by
 obtain⟨ao,cap,rfl,hmax,-⟩:=hx.at
 have CB:=zH (fun (W:World) (s:Sc B W sb vb fb lb wd E L res (lp+1)) (k:Wd9 B sb lb w W)=>cblock_any E res xs IH NM B W sb vb fb lb wd L (lp+1) _ s (hx.step k.below) ok hfr hlp)
 obtain⟨Q,hQ⟩:∃ Q,Q=hid L (ckL E res xs (lp+1) L):=⟨_,rfl⟩
 rw[← hQ] at CB ⊢
 obtain⟨er,N⟩:=Q
 clear hQ
 obtain⟨op,fr,m,hL⟩:∃ op fr m,L=⟨m,op,fr⟩:=⟨_,_,_,rfl⟩
 subst hL
 obtain⟨va,vc,n,h0,h4⟩:=h.hz
 have c6:=zC h0.bx 6 _ rfl
 have hsb:=h0.bx.lt
 have hsf:=h0.bx.box.2.2
 have hlI:(lp:Int)≤1000000:=by omega
 have hl0:(0:Int)≤(lp:Int):=by omega
 have Z:=zH (show Hz B w (w.setCell ⟨sb,6,none⟩ (.int .i64 (((lp+1:Nat)):Int))) sb vb fb lb wd E res (lp+1) (.slice va op.length vc) n op fr m from h0.store h0.ow rfl)
 have e1:((lp+1:Nat):Int)=(lp:Int)+1:=rfl
 rw[e1] at Z
 have C1:=zH (uI CB _ ((uI Z).sc h4) (uI Z).wk)
 have Z1:=zH (uI Z).wk
 clear h h0 h4 hx IH NM CB ok Z
 go_enter_defers Tryz.func96,Tryz.ntmps96
 go_wp2_with fail
 refine (uI C1).mono ?_
 rintro e w1 ⟨rfl,sc1,k1⟩
 have LV:=zH (leaveD_any .returning B w1 sb vb fb lb wd E N res lp sc1 (by omega))
 have K1:=zH ((uI Z1).trans k1)
 clear C1 Z1 sc1 k1 c6 hsb hsf
 go_wp2_with fail
 refine leaves_cons (f:=138) (args:=#[.pointer (some ⟨sb,0,none⟩)]) (by simp) (by simp[go_sem]) ?_
 refine (uI LV).mono ?_
 rintro e u' w8 ⟨rfl,rfl,z8,k8⟩
 exact⟨_,results_tmp rfl _ _ _,rfl,z8,(uI K1).trans k8⟩
theorem ckL_gd (E:Nev)(res:Int × Bool)(xs:List Sm)(h:∀ y∈xs,NmS y)(lp:Nat)(L:Loc):Gd (szL xs) L (ckL E res xs lp L).2:=gd_list E res xs (fun y hy=>ckS_gd E res y (h y hy)) lp L
theorem cchoice_any (E:Nev)(res:Int × Bool)(x:Sm)(v:Sv)(I3:∀ y∈x.body,CkSm E res y)(I4:∀ y∈x.els,CkSm E res y)(N3:∀ y∈x.body,NmS y)(N4:∀ y∈x.els,NmS y)(B:Nat)(w:World)(sb vb fb lb:Nat)(wd:Int)(L:Loc)(lp:Nat)(h:Sc B w sb vb fb lb wd E L res lp)(hs:SvL B w x v)(hf:SmF x)(ho:TyC x.x)(ok:OpOk L)(hfr:L.fr+4*((szL x.body+szL x.els:Nat):Int)≤1000000)(hlp:lp+(szL x.body+szL x.els)≤1000000) :
  Calls Tryz.prog 94 #[.pointer (some ⟨sb,0,none⟩),.agg (smA x v)] w fun e w'=>ScR B w sb vb fb lb wd E res lp (thc (tellC E L x.x,L) fun L=>thc (hid L (ckL E res x.body lp L)) fun L=>hid L (ckL E res x.els lp L)) e w':=by
 have S:=zH (Sk.begin h hs hf)
 have hAs:=zH (qak x v)
 have GD:=zH (gd_hid (ckL_gd E res x.body N3 lp L))
 have CT:=zH (fun (W:World) (s:Sk B w W sb vb fb lb wd E L res lp x v)=>tells_any x.x ho B W sb vb fb lb wd E L res lp v.xk s.sc s.sv.hx s.ok.2.1)
 have CB:=zH (fun (W:World) (s:Sk B w W sb vb fb lb wd E L res lp x v)=>cblock_any E res x.body I3 N3 B W sb vb fb lb wd L lp v.body s.sc s.sv.h3 ok (by omega) (by omega))
 have CE:=zH (fun (W:World) (M:Loc) (s:Sk B w W sb vb fb lb wd E M res lp x v) (g:Gd (szL x.body) L M)=>cblock_any E res x.els I4 N4 B W sb vb fb lb wd M lp v.els s.sc s.sv.h4 (g.2.2.1 ok) (by have:=g.2.1;omega) (by omega))
 clear h hs hf ho I3 I4 N3 N4 hfr hlp ok
 obtain⟨R,hR⟩:∃ R,R=thc (tellC E L x.x,L) fun L=>thc (hid L (ckL E res x.body lp L)) fun L=>hid L (ckL E res x.els lp L):=⟨_,rfl⟩
 rw[← hR]
 obtain⟨T,hT⟩:∃ T,T=hid L (ckL E res x.body lp L):=⟨_,rfl⟩
 have g1:Gd (szL x.body) L T.2:=by rw[hT];exact uI GD
 have hR2:R=thc (tellC E L x.x,L) fun _=>thc T fun M=>hid M (ckL E res x.els lp M):=by
  rw[hR];unfold thc;split
  ·rfl
  ·rw[hT]
 rw[← hT] at CB
 clear hR GD hT
 have HH:=(uI S).bx.heap
 generalize hA:smA x v=A at *
 generalize hW:w.alloc (.cells A 103)=W0 at *
 have hs0:w.heap.size<W0.heap.size:=(uI S).bx.lt
 obtain⟨p0,p1,p2,p3,p4,p5⟩:=(uI S).bx.exX
 have C0:=zH (uI CT W0 (uI S))
 generalize tellC E L x.x=P at *
 have HR:=zH hR2
 have G1:=zH g1
 obtain⟨er,N⟩:=T
 clear hR2 CT g1
 go_enter Tryz.func94,Tryz.ntmps94
 go_wp2_with (first|(refine wpList_boxTo rfl 103 (.tmp 1) rfl (some 3) rfl _ rfl A rfl ?_;rw[hW]))
 refine (uI C0).mono ?_
 rintro e W1 ⟨rfl,k1⟩
 have S1:=zH ((uI S).step k1)
 clear C0 S k1 HH hs0 p0 p1 p2 p3 p4 p5
 by_cases h1:P=0
 rotate_left
 ·obtain rfl:R=(P,L):=by rw[uI HR];exact if_pos h1
  have b1:(P != 0)=true:=bne_iff_ne.2 h1
  clear h1 HR CB CE
  go_wp2_with fail
  go_ret
  exact⟨rfl,(uI S1).sc,(uI S1).wk⟩
 subst h1
 have hR3:R=thc (er,N) fun M=>hid M (ckL E res x.els lp M):=by rw[uI HR];exact if_neg (show ¬ ((0:Int)≠0) by decide)
 have HR3:=zH hR3
 clear HR hR3
 obtain⟨c0,c1,c2,c3⟩:=(uI S1).bx.lists
 have hs1:w.heap.size<W1.heap.size:=(uI S1).bx.lt
 have C1:=zH (uI CB W1 (uI S1))
 clear CB
 go_wp2_with fail
 refine (uI C1).mono ?_
 rintro e W2 ⟨rfl,sc2,k2⟩
 have S2:=zH (show Sk B w W2 sb vb fb lb wd E N res lp x v from (uI S1).next k2 sc2)
 clear C1 S1 sc2 k2 c0 c1 c2 c3 hs1
 by_cases h1:er=0
 rotate_left
 ·obtain rfl:R=(er,N):=by rw[uI HR3];exact if_pos h1
  have b1:(er != 0)=true:=bne_iff_ne.2 h1
  clear h1 HR3 CE
  go_wp2_with fail
  go_ret
  exact⟨rfl,(uI S2).sc,(uI S2).wk⟩
 subst h1
 have hR4:R=hid N (ckL E res x.els lp N):=by rw[uI HR3];exact if_neg (show ¬ ((0:Int)≠0) by decide)
 have D0:=uI CE W2 N (uI S2) (uI G1)
 rw[← hR4] at D0
 have D1:=zH D0
 obtain⟨c0,c1,c2,c3⟩:=(uI S2).bx.lists
 have hs1:w.heap.size<W2.heap.size:=(uI S2).bx.lt
 clear hR4 D0 HR3 CE
 go_wp2_with fail
 refine (uI D1).mono ?_
 rintro e W3 ⟨rfl,sc3,k3⟩
 have Z:=zH (And.intro sc3 ((uI S2).wk.trans k3))
 clear D1 S2 sc3 k3 c0 c1 c2 c3 hs1
 go_wp2_with fail
 go_ret
 exact⟨rfl,(uI Z).1,(uI Z).2⟩
end Go.Proofs.YtjpnnmkefaodoaaGreat
