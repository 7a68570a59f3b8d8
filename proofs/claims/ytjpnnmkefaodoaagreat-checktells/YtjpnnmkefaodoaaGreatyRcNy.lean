/-
  RcN.
-/
import Derived.Test.YtjpnnmkefaodoaaGreatyR7Uy
import Derived.Test.YtjpnnmkefaodoaaGreatyRwEy
set_option maxHeartbeats 8000000
set_option maxRecDepth 100000
namespace Go.Proofs.YtjpnnmkefaodoaaGreat
open Go.RowKit Go.Maps Go.Great
set_option linter.unusedSimpArgs false
set_option linter.unusedVariables false
theorem rc9 (x:Ex)(h1:TvE x)(h2:NmE x):∃ V b s,RcC x V b s (cnE x).2.2.2:=by
 obtain⟨-,⟨V,b,s,h,-⟩,-⟩:=rkC x h1 h2
 exact⟨V,b,s,h⟩
structure C9 (w0 W:World)(tv:Value)(T:List ByteArray):Prop where
 own:W.ownsRow w0.heap.size 9 1 tv T.length (T.map .string)
 k:Below w0.heap.size w0 W
theorem C9.le {w0 W:World}{tv:Value}{T:List ByteArray}(h:C9 w0 W tv T):w0.heap.size≤W.heap.size:=h.k.size
theorem C9.step {w0 W W':World}{tv:Value}{T:List ByteArray}(h:C9 w0 W tv T)(k:Below W.heap.size W W'):C9 w0 W' tv T:=⟨qay h.own k,h.k.trans (k.mono h.le)⟩
theorem C9.app {w0 W W':World}{tv tv':Value}{T:List ByteArray}{nm:ByteArray}(h:C9 w0 W tv T)(o:W'.ownsRow w0.heap.size 9 1 tv' (T.length+1) (T.map .string++[.string nm]))(g:W.grownBy W' tv.ownBlock):C9 w0 W' tv' (T++[nm]) :=
 ⟨by rw[List.length_append,List.map_append];exact o,grown_below3 h.k h.le (fun b hb=>(h.own.lt b hb).1) g⟩
theorem C9.two {w0 w1:World}(k:Below w0.heap.size w0 w1):C9 w0 (w1.alloc (.cells #[.string ⟨#[112,117,116]⟩,.string ⟨#[103,101,116]⟩] 9)) (.slice (some ⟨w1.heap.size,0,none⟩) 2 2) [nPut,nGet] :=
 ⟨⟨rfl,.inr ⟨w1.heap.size,2,_,rfl,k.size,heap_alloc_new w1 _,Nat.le_refl _,by unfold maxLen;omega,rfl,rfl⟩⟩,k.trans ((qaa w1 _).mono k.size)⟩
theorem C9.box {w0 W W':World}{tv:Value}{T:List ByteArray}{b:Nat}{cs:Array Value}{U:TypeId}(h:C9 w0 W tv T)(bx:BoxC W b cs U)(hU:U≠9)(g:W.grownBy W' tv.ownBlock):BoxC W' b cs U:=qa9 bx h.own hU g
theorem C9.low {w0 V W W':World}{tv:Value}{T:List ByteArray}(h:C9 w0 W tv T)(k:Below w0.heap.size V W)(g:W.grownBy W' tv.ownBlock):Below w0.heap.size V W':=grown_below3 k h.le (fun b hb=>(h.own.lt b hb).1) g
theorem adV_taken9 {E:Nev}{n:Int}{g:Gb}(h:E.taken g.nm=true):adV E n g=7:=if_pos h
theorem adV_words9 {E:Nev}{n:Int}{g:Gb}(h:E.taken g.nm=false):adV E n g=if 8000<n+max 1 g.size*wds g.b then 4 else cnW g.init:=by
 unfold adV
 rw[if_neg (by simp[h])]
theorem ckPs_7:∀ (ps:List Pm) (L:Loc),(ckPs ps L).1=0∨(ckPs ps L).1=7:=by
 intro ps
 induction ps with
 | nil=>intro L;exact .inl (by rw[ckPs])
 | cons p ps ih =>
  intro L
  rw[ckPs]
  unfold thc
  split
  ·right
   unfold declC at *
   split
   ·rfl
   ·rename_i h1 h2
    rw[if_neg h2] at h1
    exact absurd rfl h1
  ·exact ih _
theorem ckPs_gd:∀ (ps:List Pm) (L:Loc),(∀ q∈ps,q.nm.size≤maxLen)→Gd ps.length L (ckPs ps L).2:=by
 intro ps
 induction ps with
 | nil=>intro L _;rw[ckPs];exact Gd.refl _ _
 | cons p ps ih =>
  intro L h
  rw[ckPs]
  exact (gd_thc (gd_decl L p.b p.s p.nm (h p (by simp))) (fun M=>ih M fun q hq=>h q (by simp[hq]))).mono (by rw[List.length_cons];omega)
theorem ckPs_locW:∀ (ps:List Pm) (L:Loc),LocW L→(∀ q∈ps,IsW q.b)→LocW (ckPs ps L).2:=by
 intro ps
 induction ps with
 | nil=>intro L h _;rw[ckPs];exact h
 | cons p ps ih =>
  intro L h hw
  rw[ckPs]
  exact locW_thc (locW_decl h p.s p.nm (hw p (by simp))) fun M hM=>ih M hM fun q hq=>hw q (by simp[hq])
theorem locW0:LocW ⟨fun _=>none,[],0⟩:=fun k b s h=>by cases h
theorem wdsS_drop (l:List (Int × Bool))(i:Nat)(h:i<l.length):wdsS (l.drop i)=wds l[i].1+wdsS (l.drop (i+1)):=by
 rw[List.drop_eq_getElem_cons h];rfl
theorem mine_read {w:World}{v:Value}{l:List (Int × Bool)}(h:Lies w 2 v l.length (l.flatMap mtC))(i:Nat)(hi:i<l.length):∃ b off cap,v=.slice (some ⟨b,off,none⟩) l.length cap∧b<w.heap.size ∧
  w.cell? ⟨b,off+i*2,none⟩=some (.int .i64 l[i].1)∧w.cell? ⟨b,off+i*2+1,none⟩=some (.bool l[i].2):=by
 obtain⟨h1,ao,cap,rfl,h3,h4,h6,h5⟩:=h
 obtain⟨b,off,rfl,hb,hc⟩:=h5 (by omega)
 have key:∀ j u,(mtC l[i])[j]?=some u→w.cell? ⟨b,off+i*2+j,none⟩=some u:=fun j u hu=>by
  have hj:j<2:=(List.getElem?_eq_some_iff.1 hu).1
  have hlt:i*2+j<l.length*2:=by omega
  rw[Nat.add_assoc,hc (i*2+j) hlt,flat_read (n:=2) (c:=mtC) (fun _=>rfl) l i hi j hj]
  exact hu
 exact⟨b,off,cap,rfl,hb,key 0 _ rfl,key 1 _ rfl⟩
theorem mainB0 {E:Nev}(h:E.f=ev0.f):mainB E=false:=by
 unfold mainB
 rw[h]
 rfl
theorem rcheck_any (p:Pg)(v1 v2:Value)(w:World)(hp:PgL w.heap.size w v1 v2 p) :
  Calls Tryz.prog 6 #[.agg #[v1,v2]] w (CkR p w):=by
 obtain⟨ga,gc,rfl,hgm⟩:=hp.g.slice
 obtain⟨fa,fc,rfl,hfm⟩:=hp.f.slice
 unfold maxLen at hgm hfm
 obtain⟨R,hR⟩:∃ R,R=ckP p:=⟨_,rfl⟩
 have hC:CkR p w=fun e w'=>e=.returned (.agg #[.int .i64 R.1,.int .i64 (R.2:Int)])∧Below w.heap.size w w':=by rw[hR];rfl
 rw[hC]
 have HR:=zH (hR.trans (ckP_eq p))
 have k1:=qaa w (.cells #[.slice ga p.globals.length gc,.slice fa p.funcs.length fc] 25)
 have k2:=bT k1 (qaa _ (.cells #[.int .i64 0,.int .i64 0] 28))
 have HBP:=zH ((BoxC.new w #[.slice ga p.globals.length gc,.slice fa p.funcs.length fc] 25 (by decide)).step (qaa _ (.cells #[.int .i64 0,.int .i64 0] 28)))
 have BR:=BoxC.new (w.alloc (.cells #[.slice ga p.globals.length gc,.slice fa p.funcs.length fc] 25)) #[.int .i64 0,.int .i64 0] 28 (by decide)
 have hs:((w.alloc (.cells #[.slice ga p.globals.length gc,.slice fa p.funcs.length fc] 25)).alloc (.cells #[.int .i64 0,.int .i64 0] 28)).heap.size=w.heap.size+1+1:=by simp
 rw[World.heap_alloc_size] at BR
 have HBR:=zH BR
 have HP:=zH (show PgL ((w.alloc (.cells #[.slice ga p.globals.length gc,.slice fa p.funcs.length fc] 25)).alloc (.cells #[.int .i64 0,.int .i64 0] 28)).heap.size ((w.alloc (.cells #[.slice ga p.globals.length gc,.slice fa p.funcs.length fc] 25)).alloc (.cells #[.int .i64 0,.int .i64 0] 28)) (.slice ga p.globals.length gc) (.slice fa p.funcs.length fc) p from⟨(hp.g.step k2).mono9 (by rw[hs];omega),(hp.f.step k2).mono9 (by rw[hs];omega)⟩)
 have CW:=zH (rwrong_any p _ _ _ (uI HP))
 have K0:=zH k2
 have HS:=zH hs
 have HC:=zH hC
 clear hC hR k1 k2 BR hs hp
 have HG:=zH (show (lkP p).1=0→PgG p from lkP_good9)
 generalize (lkP p).1=L at *
 obtain⟨i0,hi0,hz0,hz1,hz2⟩:=qbb infoStrC
 go_enter Tryz.func6,Tryz.ntmps6
 have c0:=(uI HBP).box.at2.1
 have c1:=(uI HBP).box.at2.2
 have hsp:=(uI HBP).lt
 go_wp2_with fail
 generalize hW0:(w.alloc (.cells #[.slice ga p.globals.length gc,.slice fa p.funcs.length fc] 25)).alloc (.cells #[.int .i64 0,.int .i64 0] 28)=W0 at *
 clear hW0 HC c0 c1 hsp
 refine (uI CW).mono ?_
 rintro e w1 ⟨rfl,k1⟩
 have hs0:=uI HS
 have BP1:=(uI HBP).low k1 (by omega)
 have HK1:=zH k1
 by_cases hL:L=0
 rotate_left
 ·obtain rfl:R=(L,0):=(uI HR).trans (if_pos hL)
  have e1:(L != 0)=true:=bne_iff_ne.2 hL
  have e2:(L==0)=false:=zBq hL
  clear CW HBP k1 BP1 i0 hi0 hz0 hz1 hz2
  have BR:=(uI HBR).low (uI HK1) (by have:=uI HS;omega)
  obtain⟨z0,z1⟩:=BR.box.at2
  have zf:=BR.box.2.2
  have zl:=BR.lt
  go_wp2_with fail
  obtain⟨p0,p1⟩:=(BR.box.twoC (.int .i64 L) (.int .i64 0)).at2
  exact bodyPost_ret (v:=.agg #[.int .i64 L,.int .i64 0]) (by simp[results,Tryz.results6,go_sem,p0,p1]) rfl ⟨rfl,zY ((uI K0).trans ((uI HK1).mono (uI K0).size)) (by omega) _ _⟩
 subst hL
 have PG:=zH (uI HG rfl)
 have HR1:=zH ((uI HR).trans (if_neg (by simp)))
 have S0:=zH (C9.two k1)
 have BP2:=BP1.step (qaa w1 (.cells #[.string ⟨#[112,117,116]⟩,.string ⟨#[103,101,116]⟩] 9))
 obtain⟨c0,c1⟩:=BP2.box.at2
 have hsp:=BP2.lt
 have HG0:=zH (show ckGs (p.globals.drop 0) 0 ev0 0=ckGs p.globals 0 ev0 0 from rfl)
 have EV0:=zH (show (0:Int)≤0∧(0:Int)≤8000∧Tkn [nPut,nGet] ev0∧mainB ev0=false from⟨by omega,by omega,tkn0,mainB0 rfl⟩)
 clear CW HG HR k1 BP1
 have HINF:=zH (And.intro hi0 (And.intro hz0 (And.intro hz1 hz2)))
 clear hi0 hz0 hz1 hz2
 generalize hG:ckGs p.globals 0 ev0 0=G at *
 have HGG:=zH hG
 clear hG
 go_wp2_with fail
 have HTL0:=zH (show [nPut,nGet].length=0+2 from rfl)
 generalize w1.alloc (.cells #[.string ⟨#[112,117,116]⟩,.string ⟨#[103,101,116]⟩] 9)=W3 at *
 generalize w1.heap.size=nb at *
 clear hsp c0 c1 BP2
 go_loopg [4,5,36] p.globals.length (fun g tv tn t wr=>∃ (i:Nat) (E:Nev) (n:Int) (T:List ByteArray),i≤p.globals.length∧g=p.globals.length - i∧tn=.int .i64 n∧t=.int .i64 (i:Int)∧Hid (T.length=i+2)∧Hid (C9 W0 wr tv T)∧Hid (0≤n∧n≤8000∧Tkn T E∧mainB E=false)∧Hid (ckGs (p.globals.drop i) i E n=G))
 case atStart=>exact⟨0,ev0,0,_,Nat.zero_le _,rfl,rfl,rfl,HTL0,S0,EV0,HG0⟩
 case round =>
  clear S0 EV0 HG0
  obtain⟨i,E,n,T,hi,hg,rfl,rfl,HTL,HC,HV,HE⟩:=hrel
  generalize wr=V0 at *
  obtain⟨ta,tc,rfl⟩:=qaj (uI HC).own
  by_cases hlt:i<p.globals.length
  ·obtain⟨b1,o1,ka,kc,rfl,hb1,hnm,hx,x0,x1,x2,x3,x4⟩:=((uI HP).g.step (uI HC).k).read i hlt
   have hiI:(i:Int)<(p.globals.length:Int):=by omega
   have hi0:(0:Int)≤(i:Int):=by omega
   have HD:=zH (show p.globals.drop i=p.globals[i]::p.globals.drop (i+1) from List.drop_eq_getElem_cons hlt)
   have GDD:=zH ((uI PG).g _ (List.getElem_mem hlt))
   have HGL:=zH (show i≤20100 by have:=(uI PG).gl;omega)
   rw[uI HD,ckGs_cons] at HE
   clear HD
   generalize p.globals[i]=y at *
   have kal:=qaa V0 (.cells #[.int .i64 y.b,.bool y.s,.string y.nm,.int .i64 y.size,.slice ka y.init.length kc] 37)
   have BX:=BoxC.new V0 #[.int .i64 y.b,.bool y.s,.string y.nm,.int .i64 y.size,.slice ka y.init.length kc] 37 (by decide)
   have S1:=zH ((uI HC).step kal)
   have CI:=in9_any T _ y.nm (V0.alloc (.cells #[.int .i64 y.b,.bool y.s,.string y.nm,.int .i64 y.size,.slice ka y.init.length kc] 37)) (Lies.owned (uI S1).own)
   rw[(uI HV).2.2.1 y.nm] at CI
   have CI:=zH CI
   have k2:=qaa (V0.alloc (.cells #[.int .i64 y.b,.bool y.s,.string y.nm,.int .i64 y.size,.slice ka y.init.length kc] 37)) (.cells #[.string y.nm] 9)
   have S2:=zH ((uI S1).step k2)
   have BN:=Box.new (V0.alloc (.cells #[.int .i64 y.b,.bool y.s,.string y.nm,.int .i64 y.size,.slice ka y.init.length kc] 37)) #[.string y.nm] 9
   rw[World.heap_alloc_size] at BN
   have BN:=zH BN
   have HBX:=zH (BX.step k2)
   have hle:=(uI HC).le
   have HX2:=zH (hx.step ((bT kal k2).mono hle))
   have HK2:=zH ((bT kal k2).mono hle)
   clear kal k2 BX hx hnm
   cases ht:E.taken y.nm
   rotate_left
   ·have h2:=uI HE
    rw[adV_taken9 ht,if_pos (by decide)] at h2
    obtain rfl:R=(7,i):=(uI HR1).trans (by rw[← h2];exact if_pos (by simp))
    rw[ht] at CI
    have HKK:=zH (uI S1).k
    clear h2 HE ht HBX BN S2 HX2 HK2
    go_wp2_with fail
    refine (uI CI).mono ?_
    rintro e V1 ⟨rfl,rfl⟩
    clear CI
    have BR:=(uI HBR).low (uI HKK) (by have:=uI HS;omega)
    obtain⟨z0,z1⟩:=BR.box.at2
    have zf:=BR.box.2.2
    have zl:=BR.lt
    go_wp2_with fail
    obtain⟨p0,p1⟩:=(BR.box.twoC (.int .i64 7) (.int .i64 (i:Int))).at2
    exact bodyPost_ret (v:=.agg #[.int .i64 7,.int .i64 (i:Int)]) (by simp[results,Tryz.results6,go_sem,p0,p1]) rfl ⟨rfl,zY ((uI K0).trans ((uI HKK).mono (uI K0).size)) (by omega) _ _⟩
   ·rw[adV_words9 ht] at HE
    rw[ht] at CI
    clear ht
    go_wp2_with fail
    refine (uI CI).mono ?_
    rintro e V1 ⟨rfl,rfl⟩
    clear CI
    go_wp2_with (at_builtin;refine qav rfl (.tmp 47) (.tmp 50) 52 rfl W0.heap.size 9 i0 _ 1 16 Tryz.underlying52 (uI HINF).1 (uI HINF).2.1 (uI HINF).2.2.1 (uI HINF).2.2.2 rfl (by decide) _ _ _ rfl (uI S2).own _ 1 [.string y.nm] rfl (lies_one1 (uI BN)) (by intro u hu;simp at hu;subst hu;rfl) (by have:=uI HTL;have:=uI HGL;unfold maxLen;omega) (by have:=uI HTL;have:=uI HGL;omega) (uI S2).le ?_;intro v6 w6 o6 g6;obtain⟨ua,uc,rfl⟩:=qaj o6;have S6:=zH ((uI S2).app o6 g6);have BX6:=(uI S2).box (uI HBX) (by decide) g6;have HX6:=zH ((uI HX2).step ((uI S2).low (Below.refl _ _) g6));have CWd:=zH (words9_any y.b y.s w6 (uI GDD).b);obtain⟨d0,d1,d2,d3,d4⟩:=qat BX6.box;have hst:=BX6.lt;have HBX6:=zH BX6;clear BX6;clear o6 g6 HBX)
    ·have e6:y.size=0:=by first|assumption|exact beq_iff_eq.1 (by assumption)
     clear d0 d1 d2 d3 d4 hst
     have hmx:max 1 y.size=1:=by have:=(uI GDD).sz;omega
     rw[hmx] at HE
     refine (uI CWd).mono ?_
     rintro e w7 ⟨rfl,k7⟩
     have S7:=zH ((uI S6).step k7)
     have HX7:=zH ((uI HX6).step (k7.mono (uI S6).le))
     have BX7:=(uI HBX6).step k7
     obtain⟨d0,d1,d2,d3,d4⟩:=qat BX7.box
     have hst:=BX7.lt
     have hv1:=(uI HV).1
     have hv2:=(uI HV).2.1
     have hsz:=(uI GDD).sz
     have hmq:=wds_ge y.b
     have MP:0≤1*wds y.b∧1*wds y.b≤8000*4:=⟨Int.mul_nonneg (by omega) (by omega),Int.mul_le_mul (by omega) hmq.2 (by omega) (by omega)⟩
     obtain⟨mp1,mp2⟩:=MP
     clear CWd k7 S6 HX6 HBX6 hmx e6
     generalize wds y.b=q at *
     have HX1q:=zH (show 0≤n+1*q by omega)
     by_cases h8:8000<n+1*q
     ·have h2:=uI HE
      rw[if_pos h8,if_pos (by decide)] at h2
      obtain rfl:R=(4,i):=(uI HR1).trans (by rw[← h2];exact if_pos (by simp))
      have HKK:=zH (uI S7).k
      clear h2 HE
      have BR:=(uI HBR).low (uI HKK) (by have:=uI HS;omega)
      obtain⟨z0,z1⟩:=BR.box.at2
      have zf:=BR.box.2.2
      have zl:=BR.lt
      go_wp2_with fail
      obtain⟨p0,p1⟩:=(BR.box.twoC (.int .i64 4) (.int .i64 (i:Int))).at2
      exact bodyPost_ret (v:=.agg #[.int .i64 4,.int .i64 (i:Int)]) (by simp[results,Tryz.results6,go_sem,p0,p1]) rfl ⟨rfl,zY ((uI K0).trans ((uI HKK).mono (uI K0).size)) (by omega) _ _⟩
     ·have h2:=uI HE
      rw[if_neg h8] at h2
      obtain⟨D,hD⟩:∃ D,D=cnW y.init:=⟨_,rfl⟩
      rw[← hD] at h2
      have HE2:=zH h2
      have HE0:=zH (show cnW (y.init.drop 0)=D from hD.symm)
      have hil:y.init.length≤9223372036854775807:=by have:=(uI GDD).il;omega
      clear h2 hD HE
      go_wp2_with fail
      go_loopg [70] y.init.length (fun g t wr=>∃ (j:Nat),j≤y.init.length∧g=y.init.length - j∧t=.int .i64 (j:Int)∧Hid (Below w7.heap.size w7 wr)∧Hid (cnW (y.init.drop j)=D))
      case atStart=>exact⟨0,Nat.zero_le _,rfl,rfl,zH (Below.refl _ _),HE0⟩
      case round =>
       clear HE0 d0 d1 d2 d3 d4 hst
       obtain⟨j,hj,hgj,rfl,HCJ,HEJ⟩:=hrel
       generalize wr=U0 at *
       by_cases hlt:j<y.init.length
       ·have hne:y.init≠[]:=by intro h;rw[h] at hlt;simp at hlt
        have hxw:ExL W0.heap.size U0 (.slice ka y.init.length kc) y.init:=(uI HX7).step ((uI HCJ).mono (uI S7).le)
        obtain⟨ao',cap',e1,-,hat⟩:=hxw.at
        injection e1 with e1 _ e2
        subst e1 e2
        obtain⟨b2,o2,rfl,hb2,hbw,hc1⟩:=hat hne
        obtain⟨kv,hk,hf,y0,y1,y2,y3,y4,y5⟩:=hc1 j hlt
        obtain⟨ak,ck,rfl,-,-⟩:=hk.at
        have hjI:(j:Int)<(y.init.length:Int):=by omega
        have hj0:(0:Int)≤(j:Int):=by omega
        have HD:=zH (show y.init.drop j=y.init[j]::y.init.drop (j+1) from List.drop_eq_getElem_cons hlt)
        have k2:=qaa U0 (.cells #[.int .i64 y.init[j].k,.int .u64 y.init[j].n,.int .i64 y.init[j].b,.bool y.init[j].s,.string y.init[j].nm,.slice ak y.init[j].kids.length ck] 57)
        have hle2:=Nat.le_trans (uI S7).le (uI HCJ).size
        obtain⟨vV,vb',vs,HW⟩:=rc9 y.init[j] ((uI GDD).ex _ (List.getElem_mem hlt)) (nmE_of _ _ _ _ hk hf)
        have CA:=zH (HW _ _ _ (hk.step (k2.mono hle2)) (Nat.le_trans hle2 k2.size))
        have KA:=zH (bT (uI HCJ) k2)
        rw[uI HD,cnW_cons] at HEJ
        clear hat hc1 hxw hk HW k2 HD hf hle2 HCJ
        generalize y.init[j]=z at *
        generalize (cnE z).2.2.2=er at *
        go_wp2_with fail
        refine (uI CA).mono ?_
        rintro e U1 ⟨rfl,k1⟩
        have K1:=zH (bT (uI KA) k1)
        clear CA k1 KA
        by_cases he:er=0
        ·subst he
         go_wp2_with fail
         go_roundg (y.init.length - (j+1))
         case measure=>omega
         case rel =>
          have h2:=uI HEJ
          rw[if_neg (by simp)] at h2
          exact⟨j+1,by omega,rfl,by go_num,zH (bT (uI K1) (qaa _ _)),zH h2⟩
        ·have ee:(er==0)=false:=zBq he
         have ee':(er != 0)=true:=bne_iff_ne.2 he
         have h2:=uI HEJ
         rw[if_pos he] at h2
         have h3:=uI HE2
         rw[← h2,if_pos he] at h3
         obtain rfl:R=(er,i):=(uI HR1).trans (by rw[← h3];exact if_pos he)
         have HKK:=zH ((uI S7).step (bT (uI K1) (qaa _ (.cells #[.int .i64 vb',.bool vs] 34)))).k
         clear h2 h3
         have BR:=(uI HBR).low (uI HKK) (by have:=uI HS;omega)
         obtain⟨z0,z1⟩:=BR.box.at2
         have zf:=BR.box.2.2
         have zl:=BR.lt
         go_wp2_with fail
         obtain⟨p0,p1⟩:=(BR.box.twoC (.int .i64 er) (.int .i64 (i:Int))).at2
         exact bodyPost_ret (v:=.agg #[.int .i64 er,.int .i64 (i:Int)]) (by simp[results,Tryz.results6,go_sem,p0,p1]) rfl ⟨rfl,zY ((uI K0).trans ((uI HKK).mono (uI K0).size)) (by omega) _ _⟩
       ·have hjI:¬ (j:Int)<(y.init.length:Int):=by omega
        have h2:=uI HEJ
        rw[List.drop_eq_nil_of_le (by omega)] at h2
        obtain rfl:D=0:=by rw[← h2];unfold cnW;rw[cnEs_nil]
        have h3:=uI HE2
        rw[if_neg (by simp)] at h3
        have HE3:=zH h3
        have S8:=zH ((uI S7).step (uI HCJ))
        clear h2 h3 HEJ HCJ HE2
        go_wp2_with fail
        go_roundg (p.globals.length - (i+1))
        case measure=>omega
        case rel =>
         have hv:=uI HV
         exact⟨i+1,E.addV y,n+1*q,T++[y.nm],by omega,rfl,by go_num,by go_num,zH (by have:=uI HTL;simp;omega),S8,zH ⟨uI HX1q,by omega,hv.2.2.1.addV y,hv.2.2.2⟩,HE3⟩
    ·have e6:¬ y.size=0:=by first|assumption|exact beq_eq_false_iff_ne.1 (by assumption)|exact fun e=>absurd (beq_iff_eq.2 e) (by assumption)
     clear d0 d1 d2 d3 d4 hst
     have hmx:max 1 y.size=y.size:=by have:=(uI GDD).sz;omega
     rw[hmx] at HE
     refine (uI CWd).mono ?_
     rintro e w7 ⟨rfl,k7⟩
     have S7:=zH ((uI S6).step k7)
     have HX7:=zH ((uI HX6).step (k7.mono (uI S6).le))
     have BX7:=(uI HBX6).step k7
     obtain⟨d0,d1,d2,d3,d4⟩:=qat BX7.box
     have hst:=BX7.lt
     have hv1:=(uI HV).1
     have hv2:=(uI HV).2.1
     have hsz:=(uI GDD).sz
     have hmq:=wds_ge y.b
     have MP:0≤y.size*wds y.b∧y.size*wds y.b≤8000*4:=⟨Int.mul_nonneg (by omega) (by omega),Int.mul_le_mul (by omega) hmq.2 (by omega) (by omega)⟩
     obtain⟨mp1,mp2⟩:=MP
     clear CWd k7 S6 HX6 HBX6 hmx e6
     generalize wds y.b=q at *
     have HX1q:=zH (show 0≤n+y.size*q by omega)
     by_cases h8:8000<n+y.size*q
     ·have h2:=uI HE
      rw[if_pos h8,if_pos (by decide)] at h2
      obtain rfl:R=(4,i):=(uI HR1).trans (by rw[← h2];exact if_pos (by simp))
      have HKK:=zH (uI S7).k
      clear h2 HE
      have BR:=(uI HBR).low (uI HKK) (by have:=uI HS;omega)
      obtain⟨z0,z1⟩:=BR.box.at2
      have zf:=BR.box.2.2
      have zl:=BR.lt
      go_wp2_with fail
      obtain⟨p0,p1⟩:=(BR.box.twoC (.int .i64 4) (.int .i64 (i:Int))).at2
      exact bodyPost_ret (v:=.agg #[.int .i64 4,.int .i64 (i:Int)]) (by simp[results,Tryz.results6,go_sem,p0,p1]) rfl ⟨rfl,zY ((uI K0).trans ((uI HKK).mono (uI K0).size)) (by omega) _ _⟩
     ·have h2:=uI HE
      rw[if_neg h8] at h2
      obtain⟨D,hD⟩:∃ D,D=cnW y.init:=⟨_,rfl⟩
      rw[← hD] at h2
      have HE2:=zH h2
      have HE0:=zH (show cnW (y.init.drop 0)=D from hD.symm)
      have hil:y.init.length≤9223372036854775807:=by have:=(uI GDD).il;omega
      clear h2 hD HE
      go_wp2_with fail
      go_loopg [70] y.init.length (fun g t wr=>∃ (j:Nat),j≤y.init.length∧g=y.init.length - j∧t=.int .i64 (j:Int)∧Hid (Below w7.heap.size w7 wr)∧Hid (cnW (y.init.drop j)=D))
      case atStart=>exact⟨0,Nat.zero_le _,rfl,rfl,zH (Below.refl _ _),HE0⟩
      case round =>
       clear HE0 d0 d1 d2 d3 d4 hst
       obtain⟨j,hj,hgj,rfl,HCJ,HEJ⟩:=hrel
       generalize wr=U0 at *
       by_cases hlt:j<y.init.length
       ·have hne:y.init≠[]:=by intro h;rw[h] at hlt;simp at hlt
        have hxw:ExL W0.heap.size U0 (.slice ka y.init.length kc) y.init:=(uI HX7).step ((uI HCJ).mono (uI S7).le)
        obtain⟨ao',cap',e1,-,hat⟩:=hxw.at
        injection e1 with e1 _ e2
        subst e1 e2
        obtain⟨b2,o2,rfl,hb2,hbw,hc1⟩:=hat hne
        obtain⟨kv,hk,hf,y0,y1,y2,y3,y4,y5⟩:=hc1 j hlt
        obtain⟨ak,ck,rfl,-,-⟩:=hk.at
        have hjI:(j:Int)<(y.init.length:Int):=by omega
        have hj0:(0:Int)≤(j:Int):=by omega
        have HD:=zH (show y.init.drop j=y.init[j]::y.init.drop (j+1) from List.drop_eq_getElem_cons hlt)
        have k2:=qaa U0 (.cells #[.int .i64 y.init[j].k,.int .u64 y.init[j].n,.int .i64 y.init[j].b,.bool y.init[j].s,.string y.init[j].nm,.slice ak y.init[j].kids.length ck] 57)
        have hle2:=Nat.le_trans (uI S7).le (uI HCJ).size
        obtain⟨vV,vb',vs,HW⟩:=rc9 y.init[j] ((uI GDD).ex _ (List.getElem_mem hlt)) (nmE_of _ _ _ _ hk hf)
        have CA:=zH (HW _ _ _ (hk.step (k2.mono hle2)) (Nat.le_trans hle2 k2.size))
        have KA:=zH (bT (uI HCJ) k2)
        rw[uI HD,cnW_cons] at HEJ
        clear hat hc1 hxw hk HW k2 HD hf hle2 HCJ
        generalize y.init[j]=z at *
        generalize (cnE z).2.2.2=er at *
        go_wp2_with fail
        refine (uI CA).mono ?_
        rintro e U1 ⟨rfl,k1⟩
        have K1:=zH (bT (uI KA) k1)
        clear CA k1 KA
        by_cases he:er=0
        ·subst he
         go_wp2_with fail
         go_roundg (y.init.length - (j+1))
         case measure=>omega
         case rel =>
          have h2:=uI HEJ
          rw[if_neg (by simp)] at h2
          exact⟨j+1,by omega,rfl,by go_num,zH (bT (uI K1) (qaa _ _)),zH h2⟩
        ·have ee:(er==0)=false:=zBq he
         have ee':(er != 0)=true:=bne_iff_ne.2 he
         have h2:=uI HEJ
         rw[if_pos he] at h2
         have h3:=uI HE2
         rw[← h2,if_pos he] at h3
         obtain rfl:R=(er,i):=(uI HR1).trans (by rw[← h3];exact if_pos he)
         have HKK:=zH ((uI S7).step (bT (uI K1) (qaa _ (.cells #[.int .i64 vb',.bool vs] 34)))).k
         clear h2 h3
         have BR:=(uI HBR).low (uI HKK) (by have:=uI HS;omega)
         obtain⟨z0,z1⟩:=BR.box.at2
         have zf:=BR.box.2.2
         have zl:=BR.lt
         go_wp2_with fail
         obtain⟨p0,p1⟩:=(BR.box.twoC (.int .i64 er) (.int .i64 (i:Int))).at2
         exact bodyPost_ret (v:=.agg #[.int .i64 er,.int .i64 (i:Int)]) (by simp[results,Tryz.results6,go_sem,p0,p1]) rfl ⟨rfl,zY ((uI K0).trans ((uI HKK).mono (uI K0).size)) (by omega) _ _⟩
       ·have hjI:¬ (j:Int)<(y.init.length:Int):=by omega
        have h2:=uI HEJ
        rw[List.drop_eq_nil_of_le (by omega)] at h2
        obtain rfl:D=0:=by rw[← h2];unfold cnW;rw[cnEs_nil]
        have h3:=uI HE2
        rw[if_neg (by simp)] at h3
        have HE3:=zH h3
        have S8:=zH ((uI S7).step (uI HCJ))
        clear h2 h3 HEJ HCJ HE2
        go_wp2_with fail
        go_roundg (p.globals.length - (i+1))
        case measure=>omega
        case rel =>
         have hv:=uI HV
         exact⟨i+1,E.addV y,n+y.size*q,T++[y.nm],by omega,rfl,by go_num,by go_num,zH (by have:=uI HTL;simp;omega),S8,zH ⟨uI HX1q,by omega,hv.2.2.1.addV y,hv.2.2.2⟩,HE3⟩
  ·have hiI:¬ (i:Int)<(p.globals.length:Int):=by omega
   have h2:=uI HE
   rw[List.drop_eq_nil_of_le (by omega),ckGs] at h2
   have HR2:=zH ((uI HR1).trans (show af1 p G=af2 p (ckNs p.funcs p.globals.length E) by rw[← h2];exact if_neg (by simp)))
   have HG1:=zH (show (ckGs p.globals 0 ev0 0).1.1=0∧(ckGs p.globals 0 ev0 0).2.1=E by rw[uI HGG,← h2];exact⟨rfl,rfl⟩)
   have BP:=(uI HBP).low (uI HC).k (by have:=uI HS;omega)
   obtain⟨c0,c1⟩:=BP.box.at2
   have hsp:=BP.lt
   obtain⟨N,hN⟩:∃ N,N=ckNs p.funcs p.globals.length E:=⟨_,rfl⟩
   rw[← hN] at HR2
   have HNN:=zH hN
   have HN0:=zH (show ckNs (p.funcs.drop 0) (p.globals.length+0) E=N from hN.symm)
   obtain rfl:i=p.globals.length:=by omega
   have S1:=zH (uI HC)
   have HTM:=zH (show Tkn T E∧mainB E=false from⟨(uI HV).2.2.1,(uI HV).2.2.2⟩)
   have HTL0:=zH (show T.length=p.globals.length+2+0 from uI HTL)
   clear HR1 h2 HE HC HV BP hN HTL HGG
   go_wp2_with fail
   clear c0 c1 hsp
   go_loopg [4,15,93] p.funcs.length (fun g tv tm t wr=>∃ (j:Nat) (F:Nev) (mb:Bool) (U:List ByteArray),j≤p.funcs.length∧g=p.funcs.length - j∧tm=.bool mb∧t=.int .i64 (j:Int)∧Hid (U.length=p.globals.length+2+j)∧Hid (C9 W0 wr tv U)∧Hid (Tkn U F∧mainB F=mb)∧Hid (ckNs (p.funcs.drop j) (p.globals.length+j) F=N))
   case atStart=>exact⟨0,E,false,T,Nat.zero_le _,rfl,rfl,rfl,HTL0,S1,HTM,HN0⟩
   case round =>
    clear S1 HTM HN0 HTL0
    obtain⟨j,F,mb,U,hj,hgj,rfl,rfl,HTL,HC,HV,HE⟩:=hrel
    generalize wr=V1 at *
    obtain⟨ua,uc,rfl⟩:=qaj (uI HC).own
    by_cases hlt:j<p.funcs.length
    ·obtain⟨b1,o1,pa,pc,sa,sc,rfl,hb1,hnm,hx,hy,x0,x1,x2,x3,x4⟩:=((uI HP).f.step (uI HC).k).read j hlt
     have hjI:(j:Int)<(p.funcs.length:Int):=by omega
     have hj0:(0:Int)≤(j:Int):=by omega
     have HD:=zH (show p.funcs.drop j=p.funcs[j]::p.funcs.drop (j+1) from List.drop_eq_getElem_cons hlt)
     have HGL:=zH (show p.globals.length+j≤20100 by have:=(uI PG).gl;have:=(uI PG).fl;omega)
     rw[uI HD,ckNs_cons] at HE
     clear HD hx hy hnm
     generalize p.funcs[j]=y at *
     have kal:=qaa V1 (.cells #[.string y.nm,.int .i64 y.b,.bool y.s,.slice pa y.params.length pc,.slice sa y.body.length sc] 41)
     have BX:=BoxC.new V1 #[.string y.nm,.int .i64 y.b,.bool y.s,.slice pa y.params.length pc,.slice sa y.body.length sc] 41 (by decide)
     have S1:=zH ((uI HC).step kal)
     have CI:=in9_any U _ y.nm (V1.alloc (.cells #[.string y.nm,.int .i64 y.b,.bool y.s,.slice pa y.params.length pc,.slice sa y.body.length sc] 41)) (Lies.owned (uI S1).own)
     rw[(uI HV).1 y.nm] at CI
     have CI:=zH CI
     have k2:=qaa (V1.alloc (.cells #[.string y.nm,.int .i64 y.b,.bool y.s,.slice pa y.params.length pc,.slice sa y.body.length sc] 41)) (.cells #[.string y.nm] 9)
     have S2:=zH ((uI S1).step k2)
     have BN:=Box.new (V1.alloc (.cells #[.string y.nm,.int .i64 y.b,.bool y.s,.slice pa y.params.length pc,.slice sa y.body.length sc] 41)) #[.string y.nm] 9
     rw[World.heap_alloc_size] at BN
     have BN:=zH BN
     have HBX:=zH (BX.step k2)
     have hgf:p.globals.length+j≤9223372036854775807:=by have:=uI HGL;omega
     clear kal k2 BX
     cases ht:F.taken y.nm
     rotate_left
     ·have h2:=uI HE
      rw[if_pos ht] at h2
      obtain rfl:R=(7,p.globals.length+j):=(uI HR2).trans (by rw[← h2];exact if_pos (by simp))
      rw[ht] at CI
      have HKK:=zH (uI S1).k
      clear h2 HE ht HBX BN S2
      go_wp2_with fail
      refine (uI CI).mono ?_
      rintro e V2 ⟨rfl,rfl⟩
      clear CI
      have BR:=(uI HBR).low (uI HKK) (by have:=uI HS;omega)
      obtain⟨z0,z1⟩:=BR.box.at2
      have zf:=BR.box.2.2
      have zl:=BR.lt
      have BP1:=(uI HBP).low (uI HKK) (by have:=uI HS;omega)
      obtain⟨c0,c1⟩:=BP1.box.at2
      have hsp:=BP1.lt
      go_wp2_with fail
      obtain⟨p0,p1⟩:=(BR.box.twoC (.int .i64 7) (.int .i64 ((p.globals.length:Int)+(j:Int)))).at2
      exact bodyPost_ret (v:=.agg #[.int .i64 7,.int .i64 ((p.globals.length:Int)+(j:Int))]) (by simp[results,Tryz.results6,go_sem,p0,p1]) rfl ⟨rfl,zY ((uI K0).trans ((uI HKK).mono (uI K0).size)) (by omega) _ _⟩
     ·have h2:=uI HE
      rw[if_neg (by simp[ht])] at h2
      have HE2:=zH h2
      have HMA:=zH (show mainB (F.addF y)=(mb || (decide (y.nm=nMain)&&decide (y.params.length=0))) by rw[main_add ht,(uI HV).2])
      have HTK:=zH ((uI HV).1.addF y)
      rw[ht] at CI
      clear ht h2 HE
      go_wp2_with fail
      refine (uI CI).mono ?_
      rintro e V2 ⟨rfl,rfl⟩
      clear CI x0 x1 x2 x3 x4
      go_upto_region 34 with (at_builtin;refine qav rfl (.tmp 106) (.tmp 109) 52 rfl W0.heap.size 9 i0 _ 1 16 Tryz.underlying52 (uI HINF).1 (uI HINF).2.1 (uI HINF).2.2.1 (uI HINF).2.2.2 rfl (by decide) _ _ _ rfl (uI S2).own _ 1 [.string y.nm] rfl (lies_one1 (uI BN)) (by intro u hu;simp at hu;subst hu;rfl) (by have:=uI HTL;have:=uI HGL;unfold maxLen;omega) (by have:=uI HTL;have:=uI HGL;omega) (uI S2).le ?_;intro v6 w6 o6 g6;obtain⟨ua,uc,rfl⟩:=qaj o6;have S6:=zH ((uI S2).app o6 g6);have BX6:=(uI S2).box (uI HBX) (by decide) g6;obtain⟨d0,d1,d2,d3,d4⟩:=qat BX6.box;have hst:=BX6.lt;clear BX6 d1 d2 d4;clear o6 g6 HBX)
      have hd:=And.intro d0 d3
      obtain⟨nb',hnb⟩:∃ z,z=(mb || (decide (y.nm=nMain)&&decide (y.params.length=0))):=⟨_,rfl⟩
      have DONE:Hid (nb'=(mb || (decide (y.nm=nMain)&&decide (y.params.length=0)))):=zH hnb
      rw[← hnb] at HMA
      clear hnb
      by_cases hm:y.nm.toList=[109,97,105,110]
      ·have em:(y.nm.toList==[109,97,105,110])=true:=beq_iff_eq.2 hm
       have en:decide (y.nm=nMain)=true:=decide_eq_true (toL_inj (hm.trans (by kernel_rfl)))
       by_cases hl:y.params.length=0
       ·have el:((y.params.length:Int)==0)=true:=by rw[hl];rfl
        obtain rfl:nb'=true:=(uI DONE).trans (by rw[en,decide_eq_true hl];cases mb <;> rfl)
        clear en hm hl
        cases mb
        all_goals
         go_wp2_with fail
         go_roundg (p.funcs.length - (j+1))
         case measure=>omega
         case rel=>exact⟨j+1,F.addF y,_,U++[y.nm],by omega,rfl,rfl,by go_num,zH (by have:=uI HTL;simp;omega),S6,zH ⟨uI HTK,uI HMA⟩,HE2⟩
       ·have el:((y.params.length:Int)==0)=false:=by rw[beq_eq_false_iff_ne];omega
        obtain rfl:nb'=mb:=(uI DONE).trans (by rw[decide_eq_false hl,Bool.and_false,Bool.or_false])
        clear en hm hl
        cases nb'
        all_goals
         go_wp2_with fail
         go_roundg (p.funcs.length - (j+1))
         case measure=>omega
         case rel=>exact⟨j+1,F.addF y,_,U++[y.nm],by omega,rfl,rfl,by go_num,zH (by have:=uI HTL;simp;omega),S6,zH ⟨uI HTK,uI HMA⟩,HE2⟩
      ·have em:(y.nm.toList==[109,97,105,110])=false:=zBq hm
       have en:decide (y.nm=nMain)=false:=decide_eq_false (fun e=>hm (by rw[e];kernel_rfl))
       obtain rfl:nb'=mb:=(uI DONE).trans (by rw[en,Bool.false_and,Bool.or_false])
       clear en hm
       cases nb'
       all_goals
        go_wp2_with fail
        go_roundg (p.funcs.length - (j+1))
        case measure=>omega
        case rel=>exact⟨j+1,F.addF y,_,U++[y.nm],by omega,rfl,rfl,by go_num,zH (by have:=uI HTL;simp;omega),S6,zH ⟨uI HTK,uI HMA⟩,HE2⟩
    ·have hjI:¬ (j:Int)<(p.funcs.length:Int):=by omega
     have h2:=uI HE
     rw[List.drop_eq_nil_of_le (by omega),ckNs] at h2
     have HR3:=zH ((uI HR2).trans (show af2 p N=af3 p F (ckFs F p.funcs p.globals.length) by rw[← h2];exact if_neg (by simp)))
     have HEV:=zH (show EvP p F by
      have q1:=uI HG1
      have q2:=uI HNN
      have q3:=evP_of (uI PG) q1.1 (by rw[q1.2,← q2,← h2])
      rw[q1.2,← q2,← h2] at q3
      exact q3)
     have BP:=(uI HBP).low (uI HC).k (by have:=uI HS;omega)
     obtain⟨c0,c1⟩:=BP.box.at2
     have hsp:=BP.lt
     obtain⟨N3,hN3⟩:∃ N3,N3=ckFs F p.funcs p.globals.length:=⟨_,rfl⟩
     rw[← hN3] at HR3
     have HG0:=zH (show ckFs F (p.funcs.drop 0) (p.globals.length+0)=N3 from hN3.symm)
     obtain rfl:j=p.funcs.length:=by omega
     have K1:=zH (uI HC).k
     have HMB:=zH (uI HV).2
     clear HR2 h2 HE HC HV BP hN3 HG1 HNN HTL
     go_wp2_with fail
     clear c0 c1 hsp
     go_loopg [127] p.funcs.length (fun g t wr=>∃ (q:Nat),q≤p.funcs.length∧g=p.funcs.length - q∧t=.int .i64 (q:Int)∧Hid (Below W0.heap.size W0 wr)∧Hid (ckFs F (p.funcs.drop q) (p.globals.length+q)=N3))
     case atStart=>exact⟨0,Nat.zero_le _,rfl,rfl,K1,HG0⟩
     case round =>
      clear K1 HG0
      obtain⟨q,hq,hgq,rfl,HC,HE⟩:=hrel
      generalize wr=V2 at *
      by_cases hlt:q<p.funcs.length
      ·obtain⟨b1,o1,pa,pc,sa,sc,rfl,hb1,hnm,hx,hy,x0,x1,x2,x3,x4⟩:=((uI HP).f.step (uI HC)).read q hlt
       have hqI:(q:Int)<(p.funcs.length:Int):=by omega
       have hq0:(0:Int)≤(q:Int):=by omega
       have HD:=zH (show p.funcs.drop q=p.funcs[q]::p.funcs.drop (q+1) from List.drop_eq_getElem_cons hlt)
       have FG:=zH ((uI PG).f _ (List.getElem_mem hlt))
       have hgf:p.globals.length+q≤9223372036854775807:=by have:=(uI PG).gl;have:=(uI PG).fl;omega
       rw[uI HD,ckFs_cons] at HE
       clear HD hnm
       generalize p.funcs[q]=y at *
       have kal:=qaa V2 (.cells #[.string y.nm,.int .i64 y.b,.bool y.s,.slice pa y.params.length pc,.slice sa y.body.length sc] 41)
       have hle:=(uI HC).size
       have hsz:=World.heap_alloc_size V2 (.cells #[.string y.nm,.int .i64 y.b,.bool y.s,.slice pa y.params.length pc,.slice sa y.body.length sc] 41)
       have BF:=BoxC.new V2 #[.string y.nm,.int .i64 y.b,.bool y.s,.slice pa y.params.length pc,.slice sa y.body.length sc] 41 (by decide)
       have kk:=(uI HC).trans (kal.mono hle)
       have HKK1:=zH kk
       have BP:=(uI HBP).low kk (by have:=uI HS;omega)
       obtain⟨c0,c1⟩:=BP.box.at2
       have hsp:=BP.lt
       have hx1:=(hx.step (kal.mono hle)).mono9 (show W0.heap.size≤(V2.alloc (.cells #[.string y.nm,.int .i64 y.b,.bool y.s,.slice pa y.params.length pc,.slice sa y.body.length sc] 41)).heap.size by rw[hsz];omega)
       have hy1:=(hy.step (kal.mono hle)).mono9 (show W0.heap.size≤(V2.alloc (.cells #[.string y.nm,.int .i64 y.b,.bool y.s,.slice pa y.params.length pc,.slice sa y.body.length sc] 41)).heap.size by rw[hsz];omega)
       have HNM:=zH (show ∀ z∈y.params,z.nm.size≤maxLen from fun z hz=>by obtain⟨u,hu,rfl⟩:=List.mem_iff_getElem.1 hz;obtain⟨_,_,_,_,h5,_⟩:=hx.read u hu;exact h5)
       have HNS:=zH (nmSs_of hy)
       have HY1:=zH hy1
       have CE:=enter9_any p y _ _ pa sa pc sc (V2.alloc (.cells #[.string y.nm,.int .i64 y.b,.bool y.s,.slice pa y.params.length pc,.slice sa y.body.length sc] 41)) ⟨((uI HP).g.step kk).mono9 (by rw[hsz];omega),((uI HP).f.step kk).mono9 (by rw[hsz];omega)⟩ hx1 (fun z hz=>((uI FG).ps z hz).1) (uI FG).pl
       have HBF:=zH BF
       clear hx hy hx1 hy1 BF kal
       obtain⟨P0,hP0⟩:∃ P0,P0=ckPs y.params ⟨fun _=>none,[],0⟩:=⟨_,rfl⟩
       have hck:ckF F y=if P0.1≠0 then P0.1 else if (hid P0.2 (ckL F (y.b,y.s) y.body 0 P0.2)).1≠0 then (hid P0.2 (ckL F (y.b,y.s) y.body 0 P0.2)).1 else if 200<(hid P0.2 (ckL F (y.b,y.s) y.body 0 P0.2)).2.fr then 4 else 0:=by rw[hP0];rfl
       rw[hck] at HE
       rw[← hP0] at CE
       have H7:=zH (show P0.1=0∨P0.1=7 by rw[hP0];exact ckPs_7 _ _)
       have HGP:=zH (show Gd y.params.length ⟨fun _=>none,[],0⟩ P0.2 by rw[hP0];exact ckPs_gd _ _ (uI HNM))
       have HLW:=zH (show LocW P0.2 by rw[hP0];exact ckPs_locW _ _ locW0 fun z hz=>((uI FG).ps z hz).1)
       unfold EnR at CE
       have CE:=zH CE
       have SZ:=zH hsz
       clear hck hP0 hsz kk BP HNM
       go_wp2_with fail
       generalize V2.alloc (.cells #[.string y.nm,.int .i64 y.b,.bool y.s,.slice pa y.params.length pc,.slice sa y.body.length sc] 41)=W1 at *
       refine (uI CE).mono ?_
       rintro e w2 ⟨rb,rfl,hrm,k2⟩
       clear CE x0 x1 x2 x3 x4 c0 c1 hsp
       have HK2:=zH k2
       have BF2:=(uI HBF).step k2
       by_cases hP:P0.1=0
       rotate_left
       ·obtain hP7:P0.1=7:=(uI H7).resolve_left hP
        have e1:(P0.1==0)=false:=zBq hP
        have h2:=uI HE
        rw[if_pos hP,if_pos hP,hP7] at h2
        obtain rfl:R=(7,p.globals.length+q):=(uI HR3).trans (by rw[← h2];exact if_pos (by simp))
        have HKK:=zH ((uI HKK1).trans (k2.mono (uI HKK1).size))
        clear h2 HE hrm k2 hP hP7
        have BR:=(uI HBR).low (uI HKK) (by have:=uI HS;omega)
        obtain⟨z0,z1⟩:=BR.box.at2
        have zf:=BR.box.2.2
        have zl:=BR.lt
        go_wp2_with fail
        obtain⟨p0,p1⟩:=(BR.box.twoC (.int .i64 7) (.int .i64 ((p.globals.length:Int)+(q:Int)))).at2
        exact bodyPost_ret (v:=.agg #[.int .i64 7,.int .i64 ((p.globals.length:Int)+(q:Int))]) (by simp[results,Tryz.results6,go_sem,p0,p1]) rfl ⟨rfl,zY ((uI K0).trans ((uI HKK).mono (uI K0).size)) (by omega) _ _⟩
       have HRM:=zH (hrm hP)
       have h2:=uI HE
       simp only[if_neg (show ¬ (P0.1≠0) from fun h=>h hP)] at h2
       have e1:(P0.1==0)=true:=beq_iff_eq.2 hP
       have HSM:=zH ((uI HY1).step k2)
       have hfr:P0.2.fr+4*(szL y.body:Int)≤1000000:=by
        have h3:=(uI HGP).2.1
        have h4:=(uI FG).pl
        have h5:=(uI FG).sz
        have h3:P0.2.fr≤0+4*(y.params.length:Int):=h3
        omega
       have CS:=stats9_any F (y.b,y.s) y.body (fun z hz=>stat9_any F (y.b,y.s) (by rcases (uI FG).res with h|h;exact .inl (isWB_of h);exact .inr h) z ((uI FG).st z hz) (uI HNS z hz)) (uI FG).st (uI HNS) W1.heap.size w2 rb _ P0.2 0 _ (uI HRM) (uI HEV) (uI HLW) rfl (uI HSM) hfr (by have:=(uI FG).sz;omega)
       have GL:=zH (show Gd (szL y.body) P0.2 (hid P0.2 (ckL F (y.b,y.s) y.body 0 P0.2)).2 from gd_hid (ckL_gd F (y.b,y.s) y.body (uI HNS) 0 P0.2))
       have HFR:=zH hfr
       generalize hid P0.2 (ckL F (y.b,y.s) y.body 0 P0.2)=r at *
       unfold StR at CS
       have CS:=zH CS
       have HE2:=zH h2
       obtain⟨d0,d1,d2,d3,d4⟩:=qat BF2.box
       have hst:=BF2.lt
       have HBF2:=zH BF2
       clear h2 HE hrm HSM HY1 HRM k2 hP hfr HBF BF2
       go_wp2_with fail
       refine (uI CS).mono ?_
       rintro e w3 ⟨rfl,-,hrm,k3⟩
       clear CS d0 d1 d2 d3 d4 hst e1
       have HK3:=zH (show Below W0.heap.size W0 w3 from ((uI HKK1).trans ((uI HK2).mono (uI HKK1).size)).trans (k3.below.mono (uI HKK1).size))
       by_cases hr:r.1=0
       rotate_left
       ·have e1:(r.1 != 0)=true:=bne_iff_ne.2 hr
        have e2:(r.1==0)=false:=zBq hr
        have h2:=uI HE2
        rw[if_pos hr,if_pos hr] at h2
        obtain rfl:R=(r.1,p.globals.length+q):=(uI HR3).trans (by rw[← h2];exact if_pos hr)
        clear h2 HE2 hrm k3
        have BR:=(uI HBR).low (uI HK3) (by have:=uI HS;omega)
        obtain⟨z0,z1⟩:=BR.box.at2
        have zf:=BR.box.2.2
        have zl:=BR.lt
        go_wp2_with fail
        obtain⟨p0,p1⟩:=(BR.box.twoC (.int .i64 r.1) (.int .i64 ((p.globals.length:Int)+(q:Int)))).at2
        exact bodyPost_ret (v:=.agg #[.int .i64 r.1,.int .i64 ((p.globals.length:Int)+(q:Int))]) (by simp[results,Tryz.results6,go_sem,p0,p1]) rfl ⟨rfl,zY ((uI K0).trans ((uI HK3).mono (uI K0).size)) (by omega) _ _⟩
       have h2:=uI HE2
       simp only[if_neg (show ¬ (r.1≠0) from fun h=>h hr)] at h2
       have HE3:=zH h2
       obtain⟨sv,hv,mv,see,had,mine,m1,m2,m3,m4,m5,m6⟩:=(hrm hr).has
       have e1:(r.1 != 0)=false:=by rw[hr];rfl
       have e2:(r.1==0)=true:=by rw[hr];rfl
       have a9:=zC m1 9 _ rfl
       have hrb:=m1.lt
       obtain⟨ma,mc,rfl⟩:=qaj m4
       have HLM:=zH (Lies.owned m4)
       have HIW:=zH m5.iw
       have HFM:=zH m5.fr
       have hml:mine.length≤1000000:=by
        have h3:=wdsS_ge mine
        have h4:=(uI GL).2.1
        have h5:=uI HFR
        rw[← m5.fr] at h3
        omega
       have HFX:=zH (show r.2.fr≤1000000 by have h4:=(uI GL).2.1;have h5:=uI HFR;omega)
       have HQ0:=zH (show (0:Int)+wdsS (mine.drop 0)=wdsS mine by rw[List.drop_zero];omega)
       clear h2 HE2 hrm k3 m1 m2 m3 m4 m5 m6 hr
       go_wp2_with fail
       clear a9 hrb
       go_loopg [23,160] mine.length (fun g ts t wr=>∃ (u:Nat) (s:Int),u≤mine.length∧g=mine.length - u∧ts=.int .i64 s∧t=.int .i64 (u:Int)∧0≤s∧Hid (s+wdsS (mine.drop u)=wdsS mine)∧Hid (Below w3.heap.size w3 wr))
       case atStart=>exact⟨0,0,Nat.zero_le _,rfl,rfl,rfl,Int.le_refl _,HQ0,zH (Below.refl _ _)⟩
       case round =>
        clear HQ0
        obtain⟨u,s,hu,hgu,rfl,rfl,hs,HQ,HCM⟩:=hrel
        generalize wr=X0 at *
        by_cases hlt:u<mine.length
        ·obtain⟨b2,o2,c2,e0,hb2,y0,y1⟩:=mine_read ((uI HLM).step (uI HCM)) u hlt
         injection e0 with e0 _ e9
         subst e0 e9
         have huI:(u:Int)<(mine.length:Int):=by omega
         have hu0:(0:Int)≤(u:Int):=by omega
         have hb3:=(uI HIW) _ (List.getElem_mem hlt)
         have hq:=uI HQ
         rw[wdsS_drop mine u hlt] at hq
         have hge:=wdsS_ge (mine.drop (u+1))
         have hwg:=wds_ge mine[u].1
         have hfx:=uI HFX
         rw[uI HFM] at hfx
         have hbnd:s+wds mine[u].1≤1000000:=by omega
         have HQ2:=zH (show (s+wds mine[u].1)+wdsS (mine.drop (u+1))=wdsS mine by omega)
         have kq:=qaa X0 (.cells #[.int .i64 mine[u].1,.bool mine[u].2] 34)
         have CQ:=zH (words9_any mine[u].1 mine[u].2 (X0.alloc (.cells #[.int .i64 mine[u].1,.bool mine[u].2] 34)) hb3)
         have HKQ:=zH (bT (uI HCM) kq)
         clear hq hge hfx hb3 kq
         generalize mine[u]=tt at *
         obtain⟨tb,tsg⟩:=tt
         dsimp only at *
         generalize wds tb=qq at *
         go_wp2_with fail
         refine (uI CQ).mono ?_
         rintro e X1 ⟨rfl,k5⟩
         have HK5:=zH (bT (uI HKQ) k5)
         clear CQ k5 HKQ
         go_wp2_with fail
         go_roundg (mine.length - (u+1))
         case measure=>omega
         case rel=>exact⟨u+1,s+qq,by omega,rfl,rfl,by go_num,by omega,HQ2,HK5⟩
        ·have huI:¬ (u:Int)<(mine.length:Int):=by omega
         have hq:=uI HQ
         rw[List.drop_eq_nil_of_le (by omega)] at hq
         obtain rfl:s=r.2.fr:=by rw[uI HFM,← hq];show s=s+0;omega
         have HK6:=zH ((uI HK3).trans ((uI HCM).mono (uI HK3).size))
         by_cases h200:200<r.2.fr
         ·have h2:=uI HE3
          rw[if_pos h200,if_pos (by decide)] at h2
          obtain rfl:R=(4,p.globals.length+q):=(uI HR3).trans (by rw[← h2];exact if_pos (by simp))
          clear h2 hq HE3
          have BR:=(uI HBR).low (uI HK6) (by have:=uI HS;omega)
          obtain⟨z0,z1⟩:=BR.box.at2
          have zf:=BR.box.2.2
          have zl:=BR.lt
          go_wp2_with fail
          obtain⟨p0,p1⟩:=(BR.box.twoC (.int .i64 4) (.int .i64 ((p.globals.length:Int)+(q:Int)))).at2
          exact bodyPost_ret (v:=.agg #[.int .i64 4,.int .i64 ((p.globals.length:Int)+(q:Int))]) (by simp[results,Tryz.results6,go_sem,p0,p1]) rfl ⟨rfl,zY ((uI K0).trans ((uI HK6).mono (uI K0).size)) (by omega) _ _⟩
         ·have h2:=uI HE3
          rw[if_neg h200,if_neg (by simp)] at h2
          have HE4:=zH h2
          clear h2 hq HE3
          go_wp2_with fail
          go_roundg (p.funcs.length - (q+1))
          case measure=>omega
          case rel=>exact⟨q+1,by omega,rfl,by go_num,HK6,HE4⟩
      ·have hqI:¬ (q:Int)<(p.funcs.length:Int):=by omega
       have h2:=uI HE
       rw[List.drop_eq_nil_of_le (by omega),ckFs] at h2
       have HR4:=zH ((uI HR3).trans (show af3 p F N3=if mainB F=true then (0,0) else (6,p.globals.length+p.funcs.length) by rw[← h2];exact if_neg (by simp)))
       have hgf:p.globals.length+p.funcs.length≤9223372036854775807:=by have:=(uI PG).gl;have:=(uI PG).fl;omega
       rw[uI HMB] at HR4
       clear h2 HE HR3
       cases mb
       ·obtain rfl:R=(6,p.globals.length+p.funcs.length):=(uI HR4).trans (if_neg (by simp))
        have BP:=(uI HBP).low (uI HC) (by have:=uI HS;omega)
        obtain⟨c0,c1⟩:=BP.box.at2
        have hsp:=BP.lt
        have BR:=(uI HBR).low (uI HC) (by have:=uI HS;omega)
        obtain⟨z0,z1⟩:=BR.box.at2
        have zf:=BR.box.2.2
        have zl:=BR.lt
        go_wp2_with fail
        obtain⟨p0,p1⟩:=(BR.box.twoC (.int .i64 6) (.int .i64 ((p.globals.length:Int)+(p.funcs.length:Int)))).at2
        exact bodyPost_ret (v:=.agg #[.int .i64 6,.int .i64 ((p.globals.length:Int)+(p.funcs.length:Int))]) (by simp[results,Tryz.results6,go_sem,p0,p1]) rfl ⟨rfl,zY ((uI K0).trans ((uI HC).mono (uI K0).size)) (by omega) _ _⟩
       ·obtain rfl:R=(0,0):=(uI HR4).trans (if_pos rfl)
        have BR:=(uI HBR).low (uI HC) (by have:=uI HS;omega)
        obtain⟨z0,z1⟩:=BR.box.at2
        have zf:=BR.box.2.2
        have zl:=BR.lt
        go_wp2_with fail
        obtain⟨p0,p1⟩:=(BR.box.twoC (.int .i64 0) (.int .i64 0)).at2
        exact bodyPost_ret (v:=.agg #[.int .i64 0,.int .i64 0]) (by simp[results,Tryz.results6,go_sem,p0,p1]) rfl ⟨rfl,zY ((uI K0).trans ((uI HC).mono (uI K0).size)) (by omega) _ _⟩
end Go.Proofs.YtjpnnmkefaodoaaGreat
