/-
  BigS.
-/
import Derived.Test.YtjpnnmkefaodoaaGreatyBigPy
import Derived.Deep.QuietTactic
import Derived.BigQuiet
set_option maxHeartbeats 8000000
set_option maxRecDepth 100000
namespace Go.Proofs.YtjpnnmkefaodoaaGreat
open Go.RowKit
set_option linter.unusedSimpArgs false
set_option linter.unusedVariables false
theorem bit_done {op:BinOp}{LA LB R:List Int}{N:Nat}{x y:Int}(h:BitInv op (LA++List.replicate (N - LA.length) 0) (LB++List.replicate (N - LB.length) 0) R N)(h0:bits op .u32 0 0=0)(hA:Wds LA)(hB:Wds LB)(lA:LA.length≤2)(lB:LB.length≤2)(nA:LA.length<N)(nB:LB.length<N)(hN:N≤3)
  (hs:bits op .u64 (LA.getD 0 0+4294967296*LA.getD 1 0) (LB.getD 0 0+4294967296*LB.getD 1 0)=bits op .u32 (LA.getD 0 0) (LB.getD 0 0)+4294967296*bits op .u32 (LA.getD 1 0) (LB.getD 1 0)) (ex:x=LA.getD 0 0+4294967296*LA.getD 1 0) (ey:y=LB.getD 0 0+4294967296*LB.getD 1 0) :
  R.length=N∧Wds R∧R.getD (N - 1) 0=0∧vl R=bits op .u64 x y:=by
 obtain⟨h1,h2,h3⟩:=h
 have hl:R.length=N:=by rw[h1,List.length_append,List.length_replicate];omega
 have out:∀ (L:List Int) j,L.length≤j→L.getD j 0=0:=fun L j hj=>by rw[List.getD_eq_getElem?_getD,List.getElem?_eq_none hj];rfl
 have all:∀ j,R.getD j 0=bits op .u32 (LA.getD j 0) (LB.getD j 0):=by
  intro j
  by_cases hj:j<N
  ·rw[h3 j hj,app_getD,app_getD]
  ·rw[out R j (by omega),out LA j (by omega),out LB j (by omega),h0]
 refine⟨hl,fun z hz=>?_,?_,?_⟩
 ·obtain⟨j,hj,rfl⟩:=List.getElem_of_mem hz
  have e:R.getD j 0=R[j]:=by rw[List.getD_eq_getElem?_getD,List.getElem?_eq_getElem hj];rfl
  rw[← e,all]
  exact u32_in _ _ _
 ·rw[all,out LA (N - 1) (by omega),out LB (N - 1) (by omega),h0]
 ·rw[vl3 (by omega),all,all,all,out LA 2 (by omega),out LB 2 (by omega),h0,ex,ey,hs]
  omega
theorem bT2 {u v x:World}(k1:Below u.heap.size u v)(k2:Below v.heap.size v x):Below u.heap.size u x:=k1.trans (k2.mono k1.size)
theorem own_other {w:World}{d b j:Nat}{u:Value}{R:List Int}(h:Own32 w d R)(hne:d≠b):Own32 (w.setCell ⟨b,j,none⟩ u) d R:=by
 obtain⟨cs,h1,h2⟩:=h
 exact⟨cs,by rw[Below.heap_setCell _ _ _ _ hne];exact h1,h2⟩
theorem bit_and (p q r:Nat)(x y:Int)(w:World)(hp:IntAt w p)(hq:Big w q x)(hr:Big w r y)(hx:U x)(hy:U y) :
  Calls Tryz.prog 70 #[.pointer (some ⟨p,0,none⟩),.pointer (some ⟨q,0,none⟩),.pointer (some ⟨r,0,none⟩)] w fun e w'=>e=.returned (.pointer (some ⟨p,0,none⟩))∧Tn p w w'∧Big w' p (bits .and .u64 x y):=by
 have b8:(18446744073709551616:Int)<4294967296 ^ 8:=by decide
 obtain⟨hx0,hx1⟩:=hx
 obtain⟨hy0,hy1⟩:=hy
 obtain⟨vA,c0,c1,dA,lq⟩:=hq.cells
 obtain⟨vB,d0,d1,dB,lr⟩:=hr.cells
 obtain⟨aoA,capA,LA,rfl,iA,-,rA,-,-,-⟩:=dA.at (by omega)
 obtain⟨aoB,capB,LB,rfl,iB,-,rB,-,-,-⟩:=dB.at (by omega)
 obtain⟨eA,lA⟩:=u_two iA (by omega)
 obtain⟨eB,lB⟩:=u_two iB (by omega)
 have ex:x=LA.getD 0 0+4294967296*LA.getD 1 0:=by omega
 have ey:y=LB.getD 0 0+4294967296*LB.getD 1 0:=by omega
 rw[show decide (x<0)=false by simp;omega] at c0
 rw[show decide (y<0)=false by simp;omega] at d0
 have HP:=zX hp
 have RA:=zX rA
 have RB:=zX rB
 clear hp hq hr dA dB rA rB eA eB b8
 by_cases hm:LB.length≤LA.length
 ·have hm':¬ ((LA.length:Int)<(LB.length:Int)):=by omega
  go_enter Tryz.func70,Tryz.ntmps70
  go_wp2_with fail
  go_quiet (fail)
  go_wp2_with fail
  have hNA:LA.length<LA.length+1:=by omega
  have hNB:LB.length<LA.length+1:=by omega
  have hN3:LA.length+1≤3:=by omega
  have hp':Hid (IntAt (w.drewN nq) p):=uX HP
  have KW:Hid (Below w.heap.size w (w.drewN nq)):=below_drewN (Below.refl _ _) nq
  have RA':Hid (Row (w.drewN nq) (.slice aoA LA.length capA) LA):=uX RA
  have RB':Hid (Row (w.drewN nq) (.slice aoB LB.length capB) LB):=uX RB
  have c0':=zK (uX KW) lq c0
  have c1':=zK (uX KW) lq c1
  have d0':=zK (uX KW) lr d0
  have d1':=zK (uX KW) lr d1
  have lq':q<(w.drewN nq).heap.size:=lq
  have lr':r<(w.drewN nq).heap.size:=lr
  clear c0 c1 d0 d1 lq lr HP RA RB
  generalize w.drewN nq=W at *
  refine (low_any q W aoA capA (LA.length+1) LA c0' c1' lq' (uX RA') (by omega) (by omega)).mono ?_
  rintro e w1 ⟨rfl,k1,O1⟩
  have K1:=zX k1
  have HO1:=zX O1
  have e0:=zK k1 lr' d0'
  have e1:=zK k1 lr' d1'
  have RB1:=zX ((uX RB').step k1)
  have lr1:r<w1.heap.size:=Nat.lt_of_lt_of_le lr' k1.size
  clear k1 O1 c0' c1' d0' d1' RA' RB' lq' lr'
  go_wp2_with fail
  refine (low_any r w1 aoB capB (LA.length+1) LB e0 e1 lr1 (uX RB1) (by omega) (by omega)).mono ?_
  rintro e w2 ⟨rfl,k2,O2⟩
  have K2:=zX (bT2 (uX K1) k2)
  have HO2:=zX O2
  have HO1':=zX ((uX HO1).step k2)
  have hlt1:=(uX HO1).lt
  have HP2:=zX ((uX hp').step (uX K2))
  have hsz:=(uX K2).size
  have hpl:=(uX hp').lt
  clear k2 O2 e0 e1 RB1 lr1 K1 HO1
  have lenA:(LA++List.replicate (LA.length+1 - LA.length) (0:Int)).length=LA.length+1:=by rw[List.length_append,List.length_replicate];omega
  have lenB:(LB++List.replicate (LA.length+1 - LB.length) (0:Int)).length=LA.length+1:=by rw[List.length_append,List.length_replicate];omega
  generalize hda:W.heap.size=da at *
  generalize hdb:w1.heap.size=db at *
  have ST:=zX (BitInv.start .and (LA++List.replicate (LA.length+1 - LA.length) 0) (LB++List.replicate (LA.length+1 - LB.length) 0))
  have DN:=zX (fun R (h:BitInv .and (LA++List.replicate (LA.length+1 - LA.length) 0) (LB++List.replicate (LA.length+1 - LB.length) 0) R (LA.length+1))=>bit_done h (by decide) iA.1 iB.1 lA lB hNA hNB hN3 (split_and (iA.1.get 0) (iA.1.get 1) (iB.1.get 0) (iB.1.get 1)) ex ey)
  generalize LA++List.replicate (LA.length+1 - LA.length) (0:Int)=AA at *
  generalize LB++List.replicate (LA.length+1 - LB.length) (0:Int)=BB at *
  go_wp2_with fail
  go_loopg [10] (LA.length+1) (fun g t wr=>∃ (i:Nat) (R:List Int),i≤LA.length+1∧g=LA.length+1 - i∧t=.int .i64 i∧Hid (Own32 wr da R)∧Hid (Own32 wr db BB)∧Hid (Below da W wr)∧Hid (BitInv .and AA BB R i))
  case atStart=>exact⟨0,AA,Nat.zero_le _,rfl,rfl,HO1',HO2,K2,ST⟩
  case round =>
   obtain⟨i,R,hi,hg,rfl,QA,QB,KR,IV⟩:=hrel
   clear HO1' HO2 ST
   by_cases hlt:i<LA.length+1
   ·have hi1:(i:Int)<((LA.length+1:Nat):Int):=by omega
    have NX:=zX ((uX IV).next (by omega))
    have hRl:=(uX IV).len
    have hold:=(uX IV).old i (Nat.le_refl _)
    go_wp2_with fail
    refine zU (fun W=>W.cell? ⟨db,i,none⟩=some (.int .u32 (BB.getD i 0))) (by kernel_rfl) ?_
    have QA':Hid (Own32 wr.drew da R):=uX QA
    have QB':Hid (Own32 wr.drew db BB):=uX QB
    have KR':Hid (Below da W wr.drew):=(uX KR).drew
    clear QA QB KR
    generalize wr.drew=wv at *
    have cB:=(uX QB').cell i (by omega)
    have cA:=(uX QA').cell i (by omega)
    have fA:=(uX QA').frozen i
    rw[hold] at cA
    have OX:=zX ((uX QA').set i (bits .and .u32 (AA.getD i 0) (BB.getD i 0)) (by omega))
    have OB:=zX (own_other (uX QB') (b:=da) (j:=i) (u:=.int .u32 (bits .and .u32 (AA.getD i 0) (BB.getD i 0))) (by omega))
    have KX:=zX ((uX KR').setCell (p:=⟨da,i,none⟩) (Nat.le_refl _) (.int .u32 (bits .and .u32 (AA.getD i 0) (BB.getD i 0))))
    have cBX:=(uX OB).cell i (by omega)
    clear hold hRl IV QA' QB' KR'
    generalize AA.getD i 0=av at *
    generalize BB.getD i 0=bv at *
    refine qR 0 3 8 ?_
    simp only[zTD]
    repeat (refine zS (fun K hK=>?_);go_simp;first|(refine zQ ?_ (fun W hW=>?_) (hK _ ?_);rotate_left;(obtain c1:=hW;go_simp;first|done|rfl);clear hK K)|(refine hK _ ?_;clear hK K))
    refine zO ?_
    refine qR 4 4 4 ?_
    simp only[zTD]
    repeat (refine zS (fun K hK=>?_);go_simp;first|(refine zQ ?_ (fun W hW=>?_) (hK _ ?_);rotate_left;(obtain c1:=hW;go_simp;first|done|rfl);clear hK K)|(refine hK _ ?_;clear hK K))
    refine zO ?_
    refine qO 3 3 cB ?_
    simp only[zTD]
    go_wp2_with fail
    first|refine zN ?_|refine zG ?_
    refine qO 8 2 cB ?_
    simp only[zTD]
    go_wp2_with fail
    first|refine zN ?_|refine zG ?_
    refine qO 9 1 cB ?_
    simp only[zTD]
    go_wp2_with fail
    first|refine zN ?_|refine zG ?_
    refine qO 10 0 cB ?_
    simp only[zTD]
    go_wp2_with fail
    first|refine zN ?_|refine zG ?_
    refine zE (by kernel_rfl) cBX ?_
    go_wp2_with fail
    go_roundg (LA.length+1 - (i+1))
    case measure=>omega
    case rel=>exact⟨i+1,_,by omega,rfl,by go_num,OX,OB,KX,NX⟩
   ·have hie:i=LA.length+1:=by omega
    subst hie
    obtain⟨r1,r2,r3,r4⟩:=uX DN R (uX IV)
    have hb:decide (((LA.length+1:Nat):Int)<((LA.length+1:Nat):Int))=false:=by simp
    have OF:=zX (of_any p da R wr ((uX hp').step (by rw[hda];exact uX KR)) (uX QA) r2 (by omega) (by omega) (by rw[r1,r3];decide))
    rw[r1,r4] at OF
    have KF:=zX (Tn.of (p:=p) ((uX KW).trans ((uX KR).mono (by have:=(uX KW).size;omega))))
    clear r1 r2 r3 r4 QA QB IV DN
    go_wp2_with fail
    refine (uX OF).mono ?_
    rintro e w9 ⟨rfl,k9,B9⟩
    go_wp2_with fail
    go_ret
    exact⟨rfl,(uX KF).trans k9,B9⟩
 ·have hm':(LA.length:Int)<(LB.length:Int):=by omega
  go_enter Tryz.func70,Tryz.ntmps70
  go_wp2_with fail
  go_quiet (fail)
  go_wp2_with fail
  have hNA:LA.length<LB.length+1:=by omega
  have hNB:LB.length<LB.length+1:=by omega
  have hN3:LB.length+1≤3:=by omega
  have hp':Hid (IntAt (w.drewN nq) p):=uX HP
  have KW:Hid (Below w.heap.size w (w.drewN nq)):=below_drewN (Below.refl _ _) nq
  have RA':Hid (Row (w.drewN nq) (.slice aoA LA.length capA) LA):=uX RA
  have RB':Hid (Row (w.drewN nq) (.slice aoB LB.length capB) LB):=uX RB
  have c0':=zK (uX KW) lq c0
  have c1':=zK (uX KW) lq c1
  have d0':=zK (uX KW) lr d0
  have d1':=zK (uX KW) lr d1
  have lq':q<(w.drewN nq).heap.size:=lq
  have lr':r<(w.drewN nq).heap.size:=lr
  clear c0 c1 d0 d1 lq lr HP RA RB
  generalize w.drewN nq=W at *
  refine (low_any q W aoA capA (LB.length+1) LA c0' c1' lq' (uX RA') (by omega) (by omega)).mono ?_
  rintro e w1 ⟨rfl,k1,O1⟩
  have K1:=zX k1
  have HO1:=zX O1
  have e0:=zK k1 lr' d0'
  have e1:=zK k1 lr' d1'
  have RB1:=zX ((uX RB').step k1)
  have lr1:r<w1.heap.size:=Nat.lt_of_lt_of_le lr' k1.size
  clear k1 O1 c0' c1' d0' d1' RA' RB' lq' lr'
  go_wp2_with fail
  refine (low_any r w1 aoB capB (LB.length+1) LB e0 e1 lr1 (uX RB1) (by omega) (by omega)).mono ?_
  rintro e w2 ⟨rfl,k2,O2⟩
  have K2:=zX (bT2 (uX K1) k2)
  have HO2:=zX O2
  have HO1':=zX ((uX HO1).step k2)
  have hlt1:=(uX HO1).lt
  have HP2:=zX ((uX hp').step (uX K2))
  have hsz:=(uX K2).size
  have hpl:=(uX hp').lt
  clear k2 O2 e0 e1 RB1 lr1 K1 HO1
  have lenA:(LA++List.replicate (LB.length+1 - LA.length) (0:Int)).length=LB.length+1:=by rw[List.length_append,List.length_replicate];omega
  have lenB:(LB++List.replicate (LB.length+1 - LB.length) (0:Int)).length=LB.length+1:=by rw[List.length_append,List.length_replicate];omega
  generalize hda:W.heap.size=da at *
  generalize hdb:w1.heap.size=db at *
  have ST:=zX (BitInv.start .and (LA++List.replicate (LB.length+1 - LA.length) 0) (LB++List.replicate (LB.length+1 - LB.length) 0))
  have DN:=zX (fun R (h:BitInv .and (LA++List.replicate (LB.length+1 - LA.length) 0) (LB++List.replicate (LB.length+1 - LB.length) 0) R (LB.length+1))=>bit_done h (by decide) iA.1 iB.1 lA lB hNA hNB hN3 (split_and (iA.1.get 0) (iA.1.get 1) (iB.1.get 0) (iB.1.get 1)) ex ey)
  generalize LA++List.replicate (LB.length+1 - LA.length) (0:Int)=AA at *
  generalize LB++List.replicate (LB.length+1 - LB.length) (0:Int)=BB at *
  go_wp2_with fail
  go_loopg [10] (LB.length+1) (fun g t wr=>∃ (i:Nat) (R:List Int),i≤LB.length+1∧g=LB.length+1 - i∧t=.int .i64 i∧Hid (Own32 wr da R)∧Hid (Own32 wr db BB)∧Hid (Below da W wr)∧Hid (BitInv .and AA BB R i))
  case atStart=>exact⟨0,AA,Nat.zero_le _,rfl,rfl,HO1',HO2,K2,ST⟩
  case round =>
   obtain⟨i,R,hi,hg,rfl,QA,QB,KR,IV⟩:=hrel
   clear HO1' HO2 ST
   by_cases hlt:i<LB.length+1
   ·have hi1:(i:Int)<((LB.length+1:Nat):Int):=by omega
    have NX:=zX ((uX IV).next (by omega))
    have hRl:=(uX IV).len
    have hold:=(uX IV).old i (Nat.le_refl _)
    go_wp2_with fail
    refine zU (fun W=>W.cell? ⟨db,i,none⟩=some (.int .u32 (BB.getD i 0))) (by kernel_rfl) ?_
    have QA':Hid (Own32 wr.drew da R):=uX QA
    have QB':Hid (Own32 wr.drew db BB):=uX QB
    have KR':Hid (Below da W wr.drew):=(uX KR).drew
    clear QA QB KR
    generalize wr.drew=wv at *
    have cB:=(uX QB').cell i (by omega)
    have cA:=(uX QA').cell i (by omega)
    have fA:=(uX QA').frozen i
    rw[hold] at cA
    have OX:=zX ((uX QA').set i (bits .and .u32 (AA.getD i 0) (BB.getD i 0)) (by omega))
    have OB:=zX (own_other (uX QB') (b:=da) (j:=i) (u:=.int .u32 (bits .and .u32 (AA.getD i 0) (BB.getD i 0))) (by omega))
    have KX:=zX ((uX KR').setCell (p:=⟨da,i,none⟩) (Nat.le_refl _) (.int .u32 (bits .and .u32 (AA.getD i 0) (BB.getD i 0))))
    have cBX:=(uX OB).cell i (by omega)
    clear hold hRl IV QA' QB' KR'
    generalize AA.getD i 0=av at *
    generalize BB.getD i 0=bv at *
    refine qR 0 3 8 ?_
    simp only[zTD]
    repeat (refine zS (fun K hK=>?_);go_simp;first|(refine zQ ?_ (fun W hW=>?_) (hK _ ?_);rotate_left;(obtain c1:=hW;go_simp;first|done|rfl);clear hK K)|(refine hK _ ?_;clear hK K))
    refine zO ?_
    refine qR 4 4 4 ?_
    simp only[zTD]
    repeat (refine zS (fun K hK=>?_);go_simp;first|(refine zQ ?_ (fun W hW=>?_) (hK _ ?_);rotate_left;(obtain c1:=hW;go_simp;first|done|rfl);clear hK K)|(refine hK _ ?_;clear hK K))
    refine zO ?_
    refine qO 3 3 cB ?_
    simp only[zTD]
    go_wp2_with fail
    first|refine zN ?_|refine zG ?_
    refine qO 8 2 cB ?_
    simp only[zTD]
    go_wp2_with fail
    first|refine zN ?_|refine zG ?_
    refine qO 9 1 cB ?_
    simp only[zTD]
    go_wp2_with fail
    first|refine zN ?_|refine zG ?_
    refine qO 10 0 cB ?_
    simp only[zTD]
    go_wp2_with fail
    first|refine zN ?_|refine zG ?_
    refine zE (by kernel_rfl) cBX ?_
    go_wp2_with fail
    go_roundg (LB.length+1 - (i+1))
    case measure=>omega
    case rel=>exact⟨i+1,_,by omega,rfl,by go_num,OX,OB,KX,NX⟩
   ·have hie:i=LB.length+1:=by omega
    subst hie
    obtain⟨r1,r2,r3,r4⟩:=uX DN R (uX IV)
    have hb:decide (((LB.length+1:Nat):Int)<((LB.length+1:Nat):Int))=false:=by simp
    have OF:=zX (of_any p da R wr ((uX hp').step (by rw[hda];exact uX KR)) (uX QA) r2 (by omega) (by omega) (by rw[r1,r3];decide))
    rw[r1,r4] at OF
    have KF:=zX (Tn.of (p:=p) ((uX KW).trans ((uX KR).mono (by have:=(uX KW).size;omega))))
    clear r1 r2 r3 r4 QA QB IV DN
    go_wp2_with fail
    refine (uX OF).mono ?_
    rintro e w9 ⟨rfl,k9,B9⟩
    go_wp2_with fail
    go_ret
    exact⟨rfl,(uX KF).trans k9,B9⟩
theorem bit_or (p q r:Nat)(x y:Int)(w:World)(hp:IntAt w p)(hq:Big w q x)(hr:Big w r y)(hx:U x)(hy:U y) :
  Calls Tryz.prog 73 #[.pointer (some ⟨p,0,none⟩),.pointer (some ⟨q,0,none⟩),.pointer (some ⟨r,0,none⟩)] w fun e w'=>e=.returned (.pointer (some ⟨p,0,none⟩))∧Tn p w w'∧Big w' p (bits .or .u64 x y):=by
 have b8:(18446744073709551616:Int)<4294967296 ^ 8:=by decide
 obtain⟨hx0,hx1⟩:=hx
 obtain⟨hy0,hy1⟩:=hy
 obtain⟨vA,c0,c1,dA,lq⟩:=hq.cells
 obtain⟨vB,d0,d1,dB,lr⟩:=hr.cells
 obtain⟨aoA,capA,LA,rfl,iA,-,rA,-,-,-⟩:=dA.at (by omega)
 obtain⟨aoB,capB,LB,rfl,iB,-,rB,-,-,-⟩:=dB.at (by omega)
 obtain⟨eA,lA⟩:=u_two iA (by omega)
 obtain⟨eB,lB⟩:=u_two iB (by omega)
 have ex:x=LA.getD 0 0+4294967296*LA.getD 1 0:=by omega
 have ey:y=LB.getD 0 0+4294967296*LB.getD 1 0:=by omega
 rw[show decide (x<0)=false by simp;omega] at c0
 rw[show decide (y<0)=false by simp;omega] at d0
 have HP:=zX hp
 have RA:=zX rA
 have RB:=zX rB
 clear hp hq hr dA dB rA rB eA eB b8
 by_cases hm:LB.length≤LA.length
 ·have hm':¬ ((LA.length:Int)<(LB.length:Int)):=by omega
  go_enter Tryz.func73,Tryz.ntmps73
  go_wp2_with fail
  go_quiet (fail)
  go_wp2_with fail
  have hNA:LA.length<LA.length+1:=by omega
  have hNB:LB.length<LA.length+1:=by omega
  have hN3:LA.length+1≤3:=by omega
  have hp':Hid (IntAt (w.drewN nq) p):=uX HP
  have KW:Hid (Below w.heap.size w (w.drewN nq)):=below_drewN (Below.refl _ _) nq
  have RA':Hid (Row (w.drewN nq) (.slice aoA LA.length capA) LA):=uX RA
  have RB':Hid (Row (w.drewN nq) (.slice aoB LB.length capB) LB):=uX RB
  have c0':=zK (uX KW) lq c0
  have c1':=zK (uX KW) lq c1
  have d0':=zK (uX KW) lr d0
  have d1':=zK (uX KW) lr d1
  have lq':q<(w.drewN nq).heap.size:=lq
  have lr':r<(w.drewN nq).heap.size:=lr
  clear c0 c1 d0 d1 lq lr HP RA RB
  generalize w.drewN nq=W at *
  refine (low_any q W aoA capA (LA.length+1) LA c0' c1' lq' (uX RA') (by omega) (by omega)).mono ?_
  rintro e w1 ⟨rfl,k1,O1⟩
  have K1:=zX k1
  have HO1:=zX O1
  have e0:=zK k1 lr' d0'
  have e1:=zK k1 lr' d1'
  have RB1:=zX ((uX RB').step k1)
  have lr1:r<w1.heap.size:=Nat.lt_of_lt_of_le lr' k1.size
  clear k1 O1 c0' c1' d0' d1' RA' RB' lq' lr'
  go_wp2_with fail
  refine (low_any r w1 aoB capB (LA.length+1) LB e0 e1 lr1 (uX RB1) (by omega) (by omega)).mono ?_
  rintro e w2 ⟨rfl,k2,O2⟩
  have K2:=zX (bT2 (uX K1) k2)
  have HO2:=zX O2
  have HO1':=zX ((uX HO1).step k2)
  have hlt1:=(uX HO1).lt
  have HP2:=zX ((uX hp').step (uX K2))
  have hsz:=(uX K2).size
  have hpl:=(uX hp').lt
  clear k2 O2 e0 e1 RB1 lr1 K1 HO1
  have lenA:(LA++List.replicate (LA.length+1 - LA.length) (0:Int)).length=LA.length+1:=by rw[List.length_append,List.length_replicate];omega
  have lenB:(LB++List.replicate (LA.length+1 - LB.length) (0:Int)).length=LA.length+1:=by rw[List.length_append,List.length_replicate];omega
  generalize hda:W.heap.size=da at *
  generalize hdb:w1.heap.size=db at *
  have ST:=zX (BitInv.start .or (LA++List.replicate (LA.length+1 - LA.length) 0) (LB++List.replicate (LA.length+1 - LB.length) 0))
  have DN:=zX (fun R (h:BitInv .or (LA++List.replicate (LA.length+1 - LA.length) 0) (LB++List.replicate (LA.length+1 - LB.length) 0) R (LA.length+1))=>bit_done h (by decide) iA.1 iB.1 lA lB hNA hNB hN3 (split_or (iA.1.get 0) (iA.1.get 1) (iB.1.get 0) (iB.1.get 1)) ex ey)
  generalize LA++List.replicate (LA.length+1 - LA.length) (0:Int)=AA at *
  generalize LB++List.replicate (LA.length+1 - LB.length) (0:Int)=BB at *
  go_wp2_with fail
  go_loopg [10] (LA.length+1) (fun g t wr=>∃ (i:Nat) (R:List Int),i≤LA.length+1∧g=LA.length+1 - i∧t=.int .i64 i∧Hid (Own32 wr da R)∧Hid (Own32 wr db BB)∧Hid (Below da W wr)∧Hid (BitInv .or AA BB R i))
  case atStart=>exact⟨0,AA,Nat.zero_le _,rfl,rfl,HO1',HO2,K2,ST⟩
  case round =>
   obtain⟨i,R,hi,hg,rfl,QA,QB,KR,IV⟩:=hrel
   clear HO1' HO2 ST
   by_cases hlt:i<LA.length+1
   ·have hi1:(i:Int)<((LA.length+1:Nat):Int):=by omega
    have NX:=zX ((uX IV).next (by omega))
    have hRl:=(uX IV).len
    have hold:=(uX IV).old i (Nat.le_refl _)
    go_wp2_with fail
    refine zU (fun W=>W.cell? ⟨db,i,none⟩=some (.int .u32 (BB.getD i 0))) (by kernel_rfl) ?_
    have QA':Hid (Own32 wr.drew da R):=uX QA
    have QB':Hid (Own32 wr.drew db BB):=uX QB
    have KR':Hid (Below da W wr.drew):=(uX KR).drew
    clear QA QB KR
    generalize wr.drew=wv at *
    have cB:=(uX QB').cell i (by omega)
    have cA:=(uX QA').cell i (by omega)
    have fA:=(uX QA').frozen i
    rw[hold] at cA
    have OX:=zX ((uX QA').set i (bits .or .u32 (AA.getD i 0) (BB.getD i 0)) (by omega))
    have OB:=zX (own_other (uX QB') (b:=da) (j:=i) (u:=.int .u32 (bits .or .u32 (AA.getD i 0) (BB.getD i 0))) (by omega))
    have KX:=zX ((uX KR').setCell (p:=⟨da,i,none⟩) (Nat.le_refl _) (.int .u32 (bits .or .u32 (AA.getD i 0) (BB.getD i 0))))
    have cBX:=(uX OB).cell i (by omega)
    clear hold hRl IV QA' QB' KR'
    generalize AA.getD i 0=av at *
    generalize BB.getD i 0=bv at *
    refine qR 0 3 8 ?_
    simp only[zTD]
    repeat (refine zS (fun K hK=>?_);go_simp;first|(refine zQ ?_ (fun W hW=>?_) (hK _ ?_);rotate_left;(obtain c1:=hW;go_simp;first|done|rfl);clear hK K)|(refine hK _ ?_;clear hK K))
    refine zO ?_
    refine qR 4 4 4 ?_
    simp only[zTD]
    repeat (refine zS (fun K hK=>?_);go_simp;first|(refine zQ ?_ (fun W hW=>?_) (hK _ ?_);rotate_left;(obtain c1:=hW;go_simp;first|done|rfl);clear hK K)|(refine hK _ ?_;clear hK K))
    refine zO ?_
    refine qO 3 3 cB ?_
    simp only[zTD]
    go_wp2_with fail
    first|refine zN ?_|refine zG ?_
    refine qO 8 2 cB ?_
    simp only[zTD]
    go_wp2_with fail
    first|refine zN ?_|refine zG ?_
    refine qO 9 1 cB ?_
    simp only[zTD]
    go_wp2_with fail
    first|refine zN ?_|refine zG ?_
    refine qO 10 0 cB ?_
    simp only[zTD]
    go_wp2_with fail
    first|refine zN ?_|refine zG ?_
    refine zE (by kernel_rfl) cBX ?_
    go_wp2_with fail
    go_roundg (LA.length+1 - (i+1))
    case measure=>omega
    case rel=>exact⟨i+1,_,by omega,rfl,by go_num,OX,OB,KX,NX⟩
   ·have hie:i=LA.length+1:=by omega
    subst hie
    obtain⟨r1,r2,r3,r4⟩:=uX DN R (uX IV)
    have hb:decide (((LA.length+1:Nat):Int)<((LA.length+1:Nat):Int))=false:=by simp
    have OF:=zX (of_any p da R wr ((uX hp').step (by rw[hda];exact uX KR)) (uX QA) r2 (by omega) (by omega) (by rw[r1,r3];decide))
    rw[r1,r4] at OF
    have KF:=zX (Tn.of (p:=p) ((uX KW).trans ((uX KR).mono (by have:=(uX KW).size;omega))))
    clear r1 r2 r3 r4 QA QB IV DN
    go_wp2_with fail
    refine (uX OF).mono ?_
    rintro e w9 ⟨rfl,k9,B9⟩
    go_wp2_with fail
    go_ret
    exact⟨rfl,(uX KF).trans k9,B9⟩
 ·have hm':(LA.length:Int)<(LB.length:Int):=by omega
  go_enter Tryz.func73,Tryz.ntmps73
  go_wp2_with fail
  go_quiet (fail)
  go_wp2_with fail
  have hNA:LA.length<LB.length+1:=by omega
  have hNB:LB.length<LB.length+1:=by omega
  have hN3:LB.length+1≤3:=by omega
  have hp':Hid (IntAt (w.drewN nq) p):=uX HP
  have KW:Hid (Below w.heap.size w (w.drewN nq)):=below_drewN (Below.refl _ _) nq
  have RA':Hid (Row (w.drewN nq) (.slice aoA LA.length capA) LA):=uX RA
  have RB':Hid (Row (w.drewN nq) (.slice aoB LB.length capB) LB):=uX RB
  have c0':=zK (uX KW) lq c0
  have c1':=zK (uX KW) lq c1
  have d0':=zK (uX KW) lr d0
  have d1':=zK (uX KW) lr d1
  have lq':q<(w.drewN nq).heap.size:=lq
  have lr':r<(w.drewN nq).heap.size:=lr
  clear c0 c1 d0 d1 lq lr HP RA RB
  generalize w.drewN nq=W at *
  refine (low_any q W aoA capA (LB.length+1) LA c0' c1' lq' (uX RA') (by omega) (by omega)).mono ?_
  rintro e w1 ⟨rfl,k1,O1⟩
  have K1:=zX k1
  have HO1:=zX O1
  have e0:=zK k1 lr' d0'
  have e1:=zK k1 lr' d1'
  have RB1:=zX ((uX RB').step k1)
  have lr1:r<w1.heap.size:=Nat.lt_of_lt_of_le lr' k1.size
  clear k1 O1 c0' c1' d0' d1' RA' RB' lq' lr'
  go_wp2_with fail
  refine (low_any r w1 aoB capB (LB.length+1) LB e0 e1 lr1 (uX RB1) (by omega) (by omega)).mono ?_
  rintro e w2 ⟨rfl,k2,O2⟩
  have K2:=zX (bT2 (uX K1) k2)
  have HO2:=zX O2
  have HO1':=zX ((uX HO1).step k2)
  have hlt1:=(uX HO1).lt
  have HP2:=zX ((uX hp').step (uX K2))
  have hsz:=(uX K2).size
  have hpl:=(uX hp').lt
  clear k2 O2 e0 e1 RB1 lr1 K1 HO1
  have lenA:(LA++List.replicate (LB.length+1 - LA.length) (0:Int)).length=LB.length+1:=by rw[List.length_append,List.length_replicate];omega
  have lenB:(LB++List.replicate (LB.length+1 - LB.length) (0:Int)).length=LB.length+1:=by rw[List.length_append,List.length_replicate];omega
  generalize hda:W.heap.size=da at *
  generalize hdb:w1.heap.size=db at *
  have ST:=zX (BitInv.start .or (LA++List.replicate (LB.length+1 - LA.length) 0) (LB++List.replicate (LB.length+1 - LB.length) 0))
  have DN:=zX (fun R (h:BitInv .or (LA++List.replicate (LB.length+1 - LA.length) 0) (LB++List.replicate (LB.length+1 - LB.length) 0) R (LB.length+1))=>bit_done h (by decide) iA.1 iB.1 lA lB hNA hNB hN3 (split_or (iA.1.get 0) (iA.1.get 1) (iB.1.get 0) (iB.1.get 1)) ex ey)
  generalize LA++List.replicate (LB.length+1 - LA.length) (0:Int)=AA at *
  generalize LB++List.replicate (LB.length+1 - LB.length) (0:Int)=BB at *
  go_wp2_with fail
  go_loopg [10] (LB.length+1) (fun g t wr=>∃ (i:Nat) (R:List Int),i≤LB.length+1∧g=LB.length+1 - i∧t=.int .i64 i∧Hid (Own32 wr da R)∧Hid (Own32 wr db BB)∧Hid (Below da W wr)∧Hid (BitInv .or AA BB R i))
  case atStart=>exact⟨0,AA,Nat.zero_le _,rfl,rfl,HO1',HO2,K2,ST⟩
  case round =>
   obtain⟨i,R,hi,hg,rfl,QA,QB,KR,IV⟩:=hrel
   clear HO1' HO2 ST
   by_cases hlt:i<LB.length+1
   ·have hi1:(i:Int)<((LB.length+1:Nat):Int):=by omega
    have NX:=zX ((uX IV).next (by omega))
    have hRl:=(uX IV).len
    have hold:=(uX IV).old i (Nat.le_refl _)
    go_wp2_with fail
    refine zU (fun W=>W.cell? ⟨db,i,none⟩=some (.int .u32 (BB.getD i 0))) (by kernel_rfl) ?_
    have QA':Hid (Own32 wr.drew da R):=uX QA
    have QB':Hid (Own32 wr.drew db BB):=uX QB
    have KR':Hid (Below da W wr.drew):=(uX KR).drew
    clear QA QB KR
    generalize wr.drew=wv at *
    have cB:=(uX QB').cell i (by omega)
    have cA:=(uX QA').cell i (by omega)
    have fA:=(uX QA').frozen i
    rw[hold] at cA
    have OX:=zX ((uX QA').set i (bits .or .u32 (AA.getD i 0) (BB.getD i 0)) (by omega))
    have OB:=zX (own_other (uX QB') (b:=da) (j:=i) (u:=.int .u32 (bits .or .u32 (AA.getD i 0) (BB.getD i 0))) (by omega))
    have KX:=zX ((uX KR').setCell (p:=⟨da,i,none⟩) (Nat.le_refl _) (.int .u32 (bits .or .u32 (AA.getD i 0) (BB.getD i 0))))
    have cBX:=(uX OB).cell i (by omega)
    clear hold hRl IV QA' QB' KR'
    generalize AA.getD i 0=av at *
    generalize BB.getD i 0=bv at *
    refine qR 0 3 8 ?_
    simp only[zTD]
    repeat (refine zS (fun K hK=>?_);go_simp;first|(refine zQ ?_ (fun W hW=>?_) (hK _ ?_);rotate_left;(obtain c1:=hW;go_simp;first|done|rfl);clear hK K)|(refine hK _ ?_;clear hK K))
    refine zO ?_
    refine qR 4 4 4 ?_
    simp only[zTD]
    repeat (refine zS (fun K hK=>?_);go_simp;first|(refine zQ ?_ (fun W hW=>?_) (hK _ ?_);rotate_left;(obtain c1:=hW;go_simp;first|done|rfl);clear hK K)|(refine hK _ ?_;clear hK K))
    refine zO ?_
    refine qO 3 3 cB ?_
    simp only[zTD]
    go_wp2_with fail
    first|refine zN ?_|refine zG ?_
    refine qO 8 2 cB ?_
    simp only[zTD]
    go_wp2_with fail
    first|refine zN ?_|refine zG ?_
    refine qO 9 1 cB ?_
    simp only[zTD]
    go_wp2_with fail
    first|refine zN ?_|refine zG ?_
    refine qO 10 0 cB ?_
    simp only[zTD]
    go_wp2_with fail
    first|refine zN ?_|refine zG ?_
    refine zE (by kernel_rfl) cBX ?_
    go_wp2_with fail
    go_roundg (LB.length+1 - (i+1))
    case measure=>omega
    case rel=>exact⟨i+1,_,by omega,rfl,by go_num,OX,OB,KX,NX⟩
   ·have hie:i=LB.length+1:=by omega
    subst hie
    obtain⟨r1,r2,r3,r4⟩:=uX DN R (uX IV)
    have hb:decide (((LB.length+1:Nat):Int)<((LB.length+1:Nat):Int))=false:=by simp
    have OF:=zX (of_any p da R wr ((uX hp').step (by rw[hda];exact uX KR)) (uX QA) r2 (by omega) (by omega) (by rw[r1,r3];decide))
    rw[r1,r4] at OF
    have KF:=zX (Tn.of (p:=p) ((uX KW).trans ((uX KR).mono (by have:=(uX KW).size;omega))))
    clear r1 r2 r3 r4 QA QB IV DN
    go_wp2_with fail
    refine (uX OF).mono ?_
    rintro e w9 ⟨rfl,k9,B9⟩
    go_wp2_with fail
    go_ret
    exact⟨rfl,(uX KF).trans k9,B9⟩
theorem bit_xor (p q r:Nat)(x y:Int)(w:World)(hp:IntAt w p)(hq:Big w q x)(hr:Big w r y)(hx:U x)(hy:U y) :
  Calls Tryz.prog 72 #[.pointer (some ⟨p,0,none⟩),.pointer (some ⟨q,0,none⟩),.pointer (some ⟨r,0,none⟩)] w fun e w'=>e=.returned (.pointer (some ⟨p,0,none⟩))∧Tn p w w'∧Big w' p (bits .xor .u64 x y):=by
 have b8:(18446744073709551616:Int)<4294967296 ^ 8:=by decide
 obtain⟨hx0,hx1⟩:=hx
 obtain⟨hy0,hy1⟩:=hy
 obtain⟨vA,c0,c1,dA,lq⟩:=hq.cells
 obtain⟨vB,d0,d1,dB,lr⟩:=hr.cells
 obtain⟨aoA,capA,LA,rfl,iA,-,rA,-,-,-⟩:=dA.at (by omega)
 obtain⟨aoB,capB,LB,rfl,iB,-,rB,-,-,-⟩:=dB.at (by omega)
 obtain⟨eA,lA⟩:=u_two iA (by omega)
 obtain⟨eB,lB⟩:=u_two iB (by omega)
 have ex:x=LA.getD 0 0+4294967296*LA.getD 1 0:=by omega
 have ey:y=LB.getD 0 0+4294967296*LB.getD 1 0:=by omega
 rw[show decide (x<0)=false by simp;omega] at c0
 rw[show decide (y<0)=false by simp;omega] at d0
 have HP:=zX hp
 have RA:=zX rA
 have RB:=zX rB
 clear hp hq hr dA dB rA rB eA eB b8
 by_cases hm:LB.length≤LA.length
 ·have hm':¬ ((LA.length:Int)<(LB.length:Int)):=by omega
  go_enter Tryz.func72,Tryz.ntmps72
  go_wp2_with fail
  go_quiet (fail)
  go_wp2_with fail
  have hNA:LA.length<LA.length+1:=by omega
  have hNB:LB.length<LA.length+1:=by omega
  have hN3:LA.length+1≤3:=by omega
  have hp':Hid (IntAt (w.drewN nq) p):=uX HP
  have KW:Hid (Below w.heap.size w (w.drewN nq)):=below_drewN (Below.refl _ _) nq
  have RA':Hid (Row (w.drewN nq) (.slice aoA LA.length capA) LA):=uX RA
  have RB':Hid (Row (w.drewN nq) (.slice aoB LB.length capB) LB):=uX RB
  have c0':=zK (uX KW) lq c0
  have c1':=zK (uX KW) lq c1
  have d0':=zK (uX KW) lr d0
  have d1':=zK (uX KW) lr d1
  have lq':q<(w.drewN nq).heap.size:=lq
  have lr':r<(w.drewN nq).heap.size:=lr
  clear c0 c1 d0 d1 lq lr HP RA RB
  generalize w.drewN nq=W at *
  refine (low_any q W aoA capA (LA.length+1) LA c0' c1' lq' (uX RA') (by omega) (by omega)).mono ?_
  rintro e w1 ⟨rfl,k1,O1⟩
  have K1:=zX k1
  have HO1:=zX O1
  have e0:=zK k1 lr' d0'
  have e1:=zK k1 lr' d1'
  have RB1:=zX ((uX RB').step k1)
  have lr1:r<w1.heap.size:=Nat.lt_of_lt_of_le lr' k1.size
  clear k1 O1 c0' c1' d0' d1' RA' RB' lq' lr'
  go_wp2_with fail
  refine (low_any r w1 aoB capB (LA.length+1) LB e0 e1 lr1 (uX RB1) (by omega) (by omega)).mono ?_
  rintro e w2 ⟨rfl,k2,O2⟩
  have K2:=zX (bT2 (uX K1) k2)
  have HO2:=zX O2
  have HO1':=zX ((uX HO1).step k2)
  have hlt1:=(uX HO1).lt
  have HP2:=zX ((uX hp').step (uX K2))
  have hsz:=(uX K2).size
  have hpl:=(uX hp').lt
  clear k2 O2 e0 e1 RB1 lr1 K1 HO1
  have lenA:(LA++List.replicate (LA.length+1 - LA.length) (0:Int)).length=LA.length+1:=by rw[List.length_append,List.length_replicate];omega
  have lenB:(LB++List.replicate (LA.length+1 - LB.length) (0:Int)).length=LA.length+1:=by rw[List.length_append,List.length_replicate];omega
  generalize hda:W.heap.size=da at *
  generalize hdb:w1.heap.size=db at *
  have ST:=zX (BitInv.start .xor (LA++List.replicate (LA.length+1 - LA.length) 0) (LB++List.replicate (LA.length+1 - LB.length) 0))
  have DN:=zX (fun R (h:BitInv .xor (LA++List.replicate (LA.length+1 - LA.length) 0) (LB++List.replicate (LA.length+1 - LB.length) 0) R (LA.length+1))=>bit_done h (by decide) iA.1 iB.1 lA lB hNA hNB hN3 (split_xor (iA.1.get 0) (iA.1.get 1) (iB.1.get 0) (iB.1.get 1)) ex ey)
  generalize LA++List.replicate (LA.length+1 - LA.length) (0:Int)=AA at *
  generalize LB++List.replicate (LA.length+1 - LB.length) (0:Int)=BB at *
  go_wp2_with fail
  go_loopg [10] (LA.length+1) (fun g t wr=>∃ (i:Nat) (R:List Int),i≤LA.length+1∧g=LA.length+1 - i∧t=.int .i64 i∧Hid (Own32 wr da R)∧Hid (Own32 wr db BB)∧Hid (Below da W wr)∧Hid (BitInv .xor AA BB R i))
  case atStart=>exact⟨0,AA,Nat.zero_le _,rfl,rfl,HO1',HO2,K2,ST⟩
  case round =>
   obtain⟨i,R,hi,hg,rfl,QA,QB,KR,IV⟩:=hrel
   clear HO1' HO2 ST
   by_cases hlt:i<LA.length+1
   ·have hi1:(i:Int)<((LA.length+1:Nat):Int):=by omega
    have NX:=zX ((uX IV).next (by omega))
    have hRl:=(uX IV).len
    have hold:=(uX IV).old i (Nat.le_refl _)
    go_wp2_with fail
    refine zU (fun W=>W.cell? ⟨db,i,none⟩=some (.int .u32 (BB.getD i 0))) (by kernel_rfl) ?_
    have QA':Hid (Own32 wr.drew da R):=uX QA
    have QB':Hid (Own32 wr.drew db BB):=uX QB
    have KR':Hid (Below da W wr.drew):=(uX KR).drew
    clear QA QB KR
    generalize wr.drew=wv at *
    have cB:=(uX QB').cell i (by omega)
    have cA:=(uX QA').cell i (by omega)
    have fA:=(uX QA').frozen i
    rw[hold] at cA
    have OX:=zX ((uX QA').set i (bits .xor .u32 (AA.getD i 0) (BB.getD i 0)) (by omega))
    have OB:=zX (own_other (uX QB') (b:=da) (j:=i) (u:=.int .u32 (bits .xor .u32 (AA.getD i 0) (BB.getD i 0))) (by omega))
    have KX:=zX ((uX KR').setCell (p:=⟨da,i,none⟩) (Nat.le_refl _) (.int .u32 (bits .xor .u32 (AA.getD i 0) (BB.getD i 0))))
    have cBX:=(uX OB).cell i (by omega)
    clear hold hRl IV QA' QB' KR'
    generalize AA.getD i 0=av at *
    generalize BB.getD i 0=bv at *
    refine qR 0 3 8 ?_
    simp only[zTD]
    repeat (refine zS (fun K hK=>?_);go_simp;first|(refine zQ ?_ (fun W hW=>?_) (hK _ ?_);rotate_left;(obtain c1:=hW;go_simp;first|done|rfl);clear hK K)|(refine hK _ ?_;clear hK K))
    refine zO ?_
    refine qR 4 4 4 ?_
    simp only[zTD]
    repeat (refine zS (fun K hK=>?_);go_simp;first|(refine zQ ?_ (fun W hW=>?_) (hK _ ?_);rotate_left;(obtain c1:=hW;go_simp;first|done|rfl);clear hK K)|(refine hK _ ?_;clear hK K))
    refine zO ?_
    refine qO 3 3 cB ?_
    simp only[zTD]
    go_wp2_with fail
    first|refine zN ?_|refine zG ?_
    refine qO 8 2 cB ?_
    simp only[zTD]
    go_wp2_with fail
    first|refine zN ?_|refine zG ?_
    refine qO 9 1 cB ?_
    simp only[zTD]
    go_wp2_with fail
    first|refine zN ?_|refine zG ?_
    refine qO 10 0 cB ?_
    simp only[zTD]
    go_wp2_with fail
    first|refine zN ?_|refine zG ?_
    refine zE (by kernel_rfl) cBX ?_
    go_wp2_with fail
    go_roundg (LA.length+1 - (i+1))
    case measure=>omega
    case rel=>exact⟨i+1,_,by omega,rfl,by go_num,OX,OB,KX,NX⟩
   ·have hie:i=LA.length+1:=by omega
    subst hie
    obtain⟨r1,r2,r3,r4⟩:=uX DN R (uX IV)
    have hb:decide (((LA.length+1:Nat):Int)<((LA.length+1:Nat):Int))=false:=by simp
    have OF:=zX (of_any p da R wr ((uX hp').step (by rw[hda];exact uX KR)) (uX QA) r2 (by omega) (by omega) (by rw[r1,r3];decide))
    rw[r1,r4] at OF
    have KF:=zX (Tn.of (p:=p) ((uX KW).trans ((uX KR).mono (by have:=(uX KW).size;omega))))
    clear r1 r2 r3 r4 QA QB IV DN
    go_wp2_with fail
    refine (uX OF).mono ?_
    rintro e w9 ⟨rfl,k9,B9⟩
    go_wp2_with fail
    go_ret
    exact⟨rfl,(uX KF).trans k9,B9⟩
 ·have hm':(LA.length:Int)<(LB.length:Int):=by omega
  go_enter Tryz.func72,Tryz.ntmps72
  go_wp2_with fail
  go_quiet (fail)
  go_wp2_with fail
  have hNA:LA.length<LB.length+1:=by omega
  have hNB:LB.length<LB.length+1:=by omega
  have hN3:LB.length+1≤3:=by omega
  have hp':Hid (IntAt (w.drewN nq) p):=uX HP
  have KW:Hid (Below w.heap.size w (w.drewN nq)):=below_drewN (Below.refl _ _) nq
  have RA':Hid (Row (w.drewN nq) (.slice aoA LA.length capA) LA):=uX RA
  have RB':Hid (Row (w.drewN nq) (.slice aoB LB.length capB) LB):=uX RB
  have c0':=zK (uX KW) lq c0
  have c1':=zK (uX KW) lq c1
  have d0':=zK (uX KW) lr d0
  have d1':=zK (uX KW) lr d1
  have lq':q<(w.drewN nq).heap.size:=lq
  have lr':r<(w.drewN nq).heap.size:=lr
  clear c0 c1 d0 d1 lq lr HP RA RB
  generalize w.drewN nq=W at *
  refine (low_any q W aoA capA (LB.length+1) LA c0' c1' lq' (uX RA') (by omega) (by omega)).mono ?_
  rintro e w1 ⟨rfl,k1,O1⟩
  have K1:=zX k1
  have HO1:=zX O1
  have e0:=zK k1 lr' d0'
  have e1:=zK k1 lr' d1'
  have RB1:=zX ((uX RB').step k1)
  have lr1:r<w1.heap.size:=Nat.lt_of_lt_of_le lr' k1.size
  clear k1 O1 c0' c1' d0' d1' RA' RB' lq' lr'
  go_wp2_with fail
  refine (low_any r w1 aoB capB (LB.length+1) LB e0 e1 lr1 (uX RB1) (by omega) (by omega)).mono ?_
  rintro e w2 ⟨rfl,k2,O2⟩
  have K2:=zX (bT2 (uX K1) k2)
  have HO2:=zX O2
  have HO1':=zX ((uX HO1).step k2)
  have hlt1:=(uX HO1).lt
  have HP2:=zX ((uX hp').step (uX K2))
  have hsz:=(uX K2).size
  have hpl:=(uX hp').lt
  clear k2 O2 e0 e1 RB1 lr1 K1 HO1
  have lenA:(LA++List.replicate (LB.length+1 - LA.length) (0:Int)).length=LB.length+1:=by rw[List.length_append,List.length_replicate];omega
  have lenB:(LB++List.replicate (LB.length+1 - LB.length) (0:Int)).length=LB.length+1:=by rw[List.length_append,List.length_replicate];omega
  generalize hda:W.heap.size=da at *
  generalize hdb:w1.heap.size=db at *
  have ST:=zX (BitInv.start .xor (LA++List.replicate (LB.length+1 - LA.length) 0) (LB++List.replicate (LB.length+1 - LB.length) 0))
  have DN:=zX (fun R (h:BitInv .xor (LA++List.replicate (LB.length+1 - LA.length) 0) (LB++List.replicate (LB.length+1 - LB.length) 0) R (LB.length+1))=>bit_done h (by decide) iA.1 iB.1 lA lB hNA hNB hN3 (split_xor (iA.1.get 0) (iA.1.get 1) (iB.1.get 0) (iB.1.get 1)) ex ey)
  generalize LA++List.replicate (LB.length+1 - LA.length) (0:Int)=AA at *
  generalize LB++List.replicate (LB.length+1 - LB.length) (0:Int)=BB at *
  go_wp2_with fail
  go_loopg [10] (LB.length+1) (fun g t wr=>∃ (i:Nat) (R:List Int),i≤LB.length+1∧g=LB.length+1 - i∧t=.int .i64 i∧Hid (Own32 wr da R)∧Hid (Own32 wr db BB)∧Hid (Below da W wr)∧Hid (BitInv .xor AA BB R i))
  case atStart=>exact⟨0,AA,Nat.zero_le _,rfl,rfl,HO1',HO2,K2,ST⟩
  case round =>
   obtain⟨i,R,hi,hg,rfl,QA,QB,KR,IV⟩:=hrel
   clear HO1' HO2 ST
   by_cases hlt:i<LB.length+1
   ·have hi1:(i:Int)<((LB.length+1:Nat):Int):=by omega
    have NX:=zX ((uX IV).next (by omega))
    have hRl:=(uX IV).len
    have hold:=(uX IV).old i (Nat.le_refl _)
    go_wp2_with fail
    refine zU (fun W=>W.cell? ⟨db,i,none⟩=some (.int .u32 (BB.getD i 0))) (by kernel_rfl) ?_
    have QA':Hid (Own32 wr.drew da R):=uX QA
    have QB':Hid (Own32 wr.drew db BB):=uX QB
    have KR':Hid (Below da W wr.drew):=(uX KR).drew
    clear QA QB KR
    generalize wr.drew=wv at *
    have cB:=(uX QB').cell i (by omega)
    have cA:=(uX QA').cell i (by omega)
    have fA:=(uX QA').frozen i
    rw[hold] at cA
    have OX:=zX ((uX QA').set i (bits .xor .u32 (AA.getD i 0) (BB.getD i 0)) (by omega))
    have OB:=zX (own_other (uX QB') (b:=da) (j:=i) (u:=.int .u32 (bits .xor .u32 (AA.getD i 0) (BB.getD i 0))) (by omega))
    have KX:=zX ((uX KR').setCell (p:=⟨da,i,none⟩) (Nat.le_refl _) (.int .u32 (bits .xor .u32 (AA.getD i 0) (BB.getD i 0))))
    have cBX:=(uX OB).cell i (by omega)
    clear hold hRl IV QA' QB' KR'
    generalize AA.getD i 0=av at *
    generalize BB.getD i 0=bv at *
    refine qR 0 3 8 ?_
    simp only[zTD]
    repeat (refine zS (fun K hK=>?_);go_simp;first|(refine zQ ?_ (fun W hW=>?_) (hK _ ?_);rotate_left;(obtain c1:=hW;go_simp;first|done|rfl);clear hK K)|(refine hK _ ?_;clear hK K))
    refine zO ?_
    refine qR 4 4 4 ?_
    simp only[zTD]
    repeat (refine zS (fun K hK=>?_);go_simp;first|(refine zQ ?_ (fun W hW=>?_) (hK _ ?_);rotate_left;(obtain c1:=hW;go_simp;first|done|rfl);clear hK K)|(refine hK _ ?_;clear hK K))
    refine zO ?_
    refine qO 3 3 cB ?_
    simp only[zTD]
    go_wp2_with fail
    first|refine zN ?_|refine zG ?_
    refine qO 8 2 cB ?_
    simp only[zTD]
    go_wp2_with fail
    first|refine zN ?_|refine zG ?_
    refine qO 9 1 cB ?_
    simp only[zTD]
    go_wp2_with fail
    first|refine zN ?_|refine zG ?_
    refine qO 10 0 cB ?_
    simp only[zTD]
    go_wp2_with fail
    first|refine zN ?_|refine zG ?_
    refine zE (by kernel_rfl) cBX ?_
    go_wp2_with fail
    go_roundg (LB.length+1 - (i+1))
    case measure=>omega
    case rel=>exact⟨i+1,_,by omega,rfl,by go_num,OX,OB,KX,NX⟩
   ·have hie:i=LB.length+1:=by omega
    subst hie
    obtain⟨r1,r2,r3,r4⟩:=uX DN R (uX IV)
    have hb:decide (((LB.length+1:Nat):Int)<((LB.length+1:Nat):Int))=false:=by simp
    have OF:=zX (of_any p da R wr ((uX hp').step (by rw[hda];exact uX KR)) (uX QA) r2 (by omega) (by omega) (by rw[r1,r3];decide))
    rw[r1,r4] at OF
    have KF:=zX (Tn.of (p:=p) ((uX KW).trans ((uX KR).mono (by have:=(uX KW).size;omega))))
    clear r1 r2 r3 r4 QA QB IV DN
    go_wp2_with fail
    refine (uX OF).mono ?_
    rintro e w9 ⟨rfl,k9,B9⟩
    go_wp2_with fail
    go_ret
    exact⟨rfl,(uX KF).trans k9,B9⟩
end Go.Proofs.YtjpnnmkefaodoaaGreat
