/-
  ClG.
-/
import Derived.Test.YtjpnnmkefaodoaaGreatyClEy
set_option maxHeartbeats 8000000
set_option maxRecDepth 100000
namespace Go.Proofs.YtjpnnmkefaodoaaGreat
open Go.RowKit Go.Maps Go.Great
set_option linter.unusedSimpArgs false
set_option linter.unusedVariables false
def adV (E:Nev)(n:Int)(g:Gb):Int:=if E.taken g.nm=true then 7 else if 8000<n+max 1 g.size*wds g.b then 4 else cnW g.init
theorem adV_ok {E:Nev}{n:Int}{g:Gb}(h:adV E n g=0):n+max 1 g.size*wds g.b≤8000:=by
 unfold adV at h
 split at h
 ·cases h
 ·split at h
  ·cases h
  ·omega
theorem ckGs_cons (g:Gb)(gs:List Gb)(i:Nat)(E:Nev)(n:Int):ckGs (g::gs) i E n=if adV E n g≠0 then ((adV E n g,i),E,n) else ckGs gs (i+1) (E.addV g) (n+max 1 g.size*wds g.b):=by
 rw[ckGs]
 unfold adV cnW
 split
 ·rfl
 ·split
  ·rfl
  ·rfl
theorem ckNs_cons (f:Fn8)(fs:List Fn8)(i:Nat)(E:Nev):ckNs (f::fs) i E=if E.taken f.nm=true then ((7,i),E) else ckNs fs (i+1) (E.addF f):=by rw[ckNs]
theorem ckFs_cons (E:Nev)(f:Fn8)(fs:List Fn8)(i:Nat):ckFs E (f::fs) i=if ckF E f≠0 then (ckF E f,i) else ckFs E fs (i+1):=by rw[ckFs]
def af3 (p:Pg)(E:Nev)(f:Int × Nat):Int × Nat:=if f.1≠0 then f else if mainB E=true then (0,0) else (6,p.globals.length+p.funcs.length)
def af2 (p:Pg)(n:(Int × Nat) × Nev):Int × Nat:=if n.1.1≠0 then n.1 else af3 p n.2 (ckFs n.2 p.funcs p.globals.length)
def af1 (p:Pg)(g:(Int × Nat) × Nev × Int):Int × Nat:=if g.1.1≠0 then g.1 else af2 p (ckNs p.funcs p.globals.length g.2.1)
theorem ckP_eq (p:Pg):ckP p=if (lkP p).1≠0 then ((lkP p).1,0) else af1 p (ckGs p.globals 0 ev0 0):=by
 unfold ckP af1 af2 af3 mainB
 rfl
def EvOk (E:Nev):Prop:=∀ k x,E.f k=some x→x.2.2≤100
theorem evOk0:EvOk ev0:=by
 intro k x h
 have h:(if k=nGet then some (16,true,0) else if k=nPut then some (0,false,1) else none)=some x:=h
 split at h
 ·injection h with h;subst h;show 0≤100;omega
 ·split at h
  ·injection h with h;subst h;show 1≤100;omega
  ·cases h
theorem EvOk.addF {E:Nev}{f:Fn8}(h:EvOk E)(hf:f.params.length≤100):EvOk (E.addF f):=by
 intro k x e
 have e:(if k=f.nm then some (f.b,f.s,f.params.length) else E.f k)=some x:=e
 split at e
 ·injection e with e;subst e;exact hf
 ·exact h k x e
theorem nmSs_of {B:Nat}{w:World}{v:Value}{l:List Sm}(h:SmL B w v l):∀ y∈l,NmS y:=by
 intro y hy
 cases h with
 | mk v xs ks hlen hv lies ok hx hi a1 a2 a3 a4 =>
  obtain⟨j,hj,rfl⟩:=List.mem_iff_getElem.1 hy
  exact nmS_of _ B w (ok _ hy).1 ⟨_,a1 j hj⟩ ⟨_,a2 j hj⟩ ⟨_,a3 j hj⟩ ⟨_,a4 j hj⟩
theorem addV_any {H:Nat}{w0 w:World}{nb vb fb nv nf:Nat}{E:Nev}{wd:Int}(h:Ng H w0 w nb vb fb nv nf E wd)(g:Gb)(gd:GbG g)(ka:Option Addr)(kc:Nat)(hx:ExL H w (.slice ka g.init.length kc) g.init)(hn:g.nm.size≤maxLen)(hl:nv<maxLen)(hwd:0≤wd∧wd≤8000) :
  Calls Tryz.prog 11 #[.pointer (some ⟨nb,0,none⟩),.agg #[.int .i64 g.b,.bool g.s,.string g.nm,.int .i64 g.size,.slice ka g.init.length kc]] w fun e w'=>AvR H w0 nb vb fb nv nf E g (adV E wd g) (wd+max 1 g.size*wds g.b) e w':=by
 unfold adV
 cases ht:E.taken g.nm
 ·rw[if_neg (by simp)]
  exact addV_yes h g gd ka kc hx hn hl ht hwd _ rfl
 ·rw[if_pos rfl]
  exact addV_no h g _ hn ht _
theorem BoxC.low {w w':World}{b B:Nat}{cs:Array Value}{T:TypeId}(h:BoxC w b cs T)(k:Below B w w')(hb:b<B):BoxC w' b cs T:=⟨(k.block b hb).trans h.1,h.2⟩
def CkR (p:Pg)(w:World)(e:Ending)(w':World):Prop:=e=.returned (.agg #[.int .i64 (ckP p).1,.int .i64 ((ckP p).2:Int)])∧Below w.heap.size w w'
theorem check_any (p:Pg)(v1 v2:Value)(w:World)(hp:PgL w.heap.size w v1 v2 p) :
  Calls Tryz.prog 5 #[.agg #[v1,v2]] w (CkR p w):=by
 obtain⟨ga,gc,rfl,hgm⟩:=hp.g.slice
 obtain⟨fa,fc,rfl,hfm⟩:=hp.f.slice
 unfold maxLen at hgm hfm
 obtain⟨R,hR⟩:∃ R,R=ckP p:=⟨_,rfl⟩
 have hC:CkR p w=fun e w'=>e=.returned (.agg #[.int .i64 R.1,.int .i64 (R.2:Int)])∧Below w.heap.size w w':=by rw[hR];rfl
 rw[hC]
 have HR:=zH (hR.trans (ckP_eq p))
 have k1:=qaa w (.cells #[.slice ga p.globals.length gc,.slice fa p.funcs.length fc] 25)
 have k2:=bT k1 (qaa _ (.cells #[.int .i64 0,.int .i64 0] 28))
 have HBP:=zH ((BoxC.new w #[.slice ga p.globals.length gc,.slice fa p.funcs.length fc] 25 (by decide)).step (qaa _ (.cells #[.int .i64 0,.int .i64 0] 28)))
 have BR:=BoxC.new (w.alloc (.cells #[.slice ga p.globals.length gc,.slice fa p.funcs.length fc] 25)) #[.int .i64 0,.int .i64 0] 28 (by decide)
 have hs:((w.alloc (.cells #[.slice ga p.globals.length gc,.slice fa p.funcs.length fc] 25)).alloc (.cells #[.int .i64 0,.int .i64 0] 28)).heap.size=w.heap.size+1+1:=by simp
 rw[World.heap_alloc_size] at BR
 have HBR:=zH BR
 have HP:=zH (show PgL ((w.alloc (.cells #[.slice ga p.globals.length gc,.slice fa p.funcs.length fc] 25)).alloc (.cells #[.int .i64 0,.int .i64 0] 28)).heap.size ((w.alloc (.cells #[.slice ga p.globals.length gc,.slice fa p.funcs.length fc] 25)).alloc (.cells #[.int .i64 0,.int .i64 0] 28)) (.slice ga p.globals.length gc) (.slice fa p.funcs.length fc) p from⟨(hp.g.step k2).mono9 (by rw[hs];omega),(hp.f.step k2).mono9 (by rw[hs];omega)⟩)
 have CW:=zH (swrong_any p _ _ _ (uI HP))
 have K0:=zH k2
 have HS:=zH hs
 have HC:=zH hC
 clear hC hR k1 k2 BR hs hp
 have HG:=zH (show (lkP p).1=0→PgG p from lkP_good9)
 generalize (lkP p).1=L at *
 go_enter Tryz.func5,Tryz.ntmps5
 go_wp2_with fail
 generalize hW0:(w.alloc (.cells #[.slice ga p.globals.length gc,.slice fa p.funcs.length fc] 25)).alloc (.cells #[.int .i64 0,.int .i64 0] 28)=W0 at *
 clear hW0 HC
 refine (uI CW).mono ?_
 rintro e w1 ⟨rfl,k1⟩
 have hs0:=uI HS
 have BP1:=(uI HBP).low k1 (by omega)
 have BR1:=(uI HBR).low k1 (by omega)
 have HK1:=zH k1
 obtain⟨z0,z1⟩:=BR1.box.at2
 have zf:=BR1.box.2.2
 have zl:=BR1.lt
 by_cases hL:L=0
 rotate_left
 ·obtain rfl:R=(L,0):=(uI HR).trans (if_pos hL)
  have e1:(L != 0)=true:=bne_iff_ne.2 hL
  have e2:(L==0)=false:=zBq hL
  clear CW HBP HBR k1 BP1
  go_wp2_with fail
  obtain⟨p0,p1⟩:=(BR1.box.twoC (.int .i64 L) (.int .i64 0)).at2
  exact bodyPost_ret (v:=.agg #[.int .i64 L,.int .i64 0]) (by simp[results,Tryz.results5,go_sem,p0,p1]) rfl ⟨rfl,zY ((uI K0).trans ((uI HK1).mono (uI K0).size)) (by omega) _ _⟩
 subst hL
 have PG:=zH (uI HG rfl)
 have HR1:=zH ((uI HR).trans (if_neg (by simp)))
 clear CW HG HR k1 z0 z1 zf zl
 have NN:=zH (newNames_any w1)
 go_wp2_with fail
 refine (uI NN).mono ?_
 rintro e w2 ⟨vb,fb,rfl,hv,hf,hne,hv0,hf0,k2⟩
 have kal:=qaa w2 (.cells #[.map (some vb),.map (some fb),.int .i64 0] 47)
 have h12:=(uI HK1).size
 have h23:=k2.size
 have S0:=zH (show Ng W0.heap.size W0 (w2.alloc (.cells #[.map (some vb),.map (some fb),.int .i64 0] 47)) w2.heap.size vb fb 0 2 ev0 0 from⟨BoxC.new w2 _ _ (by decide),hv.step kal,by obtain⟨g,q1,q2⟩:=hf;exact⟨g,q1.step kal,q2⟩,by omega,by omega,by omega,hne,Nat.le_refl _,bT (bT (uI HK1) k2) kal⟩)
 have BP2:=BP1.step k2
 have BR2:=BR1.step k2
 obtain⟨c0,c1⟩:=BP2.box.at2
 have hsp:=BP2.lt
 have HG0:=zH (show ckGs (p.globals.drop 0) 0 ev0 0=ckGs p.globals 0 ev0 0 from rfl)
 have EV0:=zH (show (0:Int)≤0∧(0:Int)≤8000∧EvOk ev0 from⟨by omega,by omega,evOk0⟩)
 clear NN hv hf kal BP1 BR1 BR2 hne hv0 hf0 h12 h23 k2
 generalize hG:ckGs p.globals 0 ev0 0=G at *
 clear hG
 go_wp2_with fail
 generalize w2.alloc (.cells #[.map (some vb),.map (some fb),.int .i64 0] 47)=W3 at *
 generalize w2.heap.size=nb at *
 clear hsp c0 c1 BP2
 go_loopg [24] p.globals.length (fun g t wr=>∃ (i:Nat) (E:Nev) (n:Int),i≤p.globals.length∧g=p.globals.length - i∧t=.int .i64 (i:Int)∧Hid (Ng W0.heap.size W0 wr nb vb fb i 2 E n)∧Hid (0≤n∧n≤8000∧EvOk E)∧Hid (ckGs (p.globals.drop i) i E n=G))
 case atStart=>exact⟨0,ev0,0,Nat.zero_le _,rfl,rfl,S0,EV0,HG0⟩
 case round =>
  clear S0 EV0 HG0
  obtain⟨i,E,n,hi,hg,rfl,HC,HV,HE⟩:=hrel
  generalize wr=V0 at *
  by_cases hlt:i<p.globals.length
  ·obtain⟨b1,o1,ka,kc,rfl,hb1,hnm,hx,x0,x1,x2,x3,x4⟩:=((uI HP).g.step (uI HC).k).read i hlt
   have hiI:(i:Int)<(p.globals.length:Int):=by omega
   have hi0:(0:Int)≤(i:Int):=by omega
   have HD:=zH (show p.globals.drop i=p.globals[i]::p.globals.drop (i+1) from List.drop_eq_getElem_cons hlt)
   have kal:=qaa V0 (.cells #[.int .i64 p.globals[i].b,.bool p.globals[i].s,.string p.globals[i].nm,.int .i64 p.globals[i].size,.slice ka p.globals[i].init.length kc] 37)
   have CA:=zH (addV_any ((uI HC).step kal) p.globals[i] ((uI PG).g _ (List.getElem_mem hlt)) ka kc (hx.step (kal.mono (uI HC).le)) hnm (by unfold maxLen;omega) ⟨(uI HV).1,(uI HV).2.1⟩)
   have OK:=zH (show adV E n p.globals[i]=0→n+max 1 p.globals[i].size*wds p.globals[i].b≤8000 from adV_ok)
   have GE:=zH (show 0≤n+max 1 p.globals[i].size*wds p.globals[i].b from Int.add_nonneg (uI HV).1 (Int.mul_nonneg (by omega) (by have:=(wds_ge p.globals[i].b).1;omega)))
   have BP:=(uI HBP).low (uI HC).k (by have:=uI HS;omega)
   have BR:=(uI HBR).low (uI HC).k (by have:=uI HS;omega)
   rw[uI HD,ckGs_cons] at HE
   have hsn:=(uI HC).bx.lt
   clear HD kal hx hnm
   generalize p.globals[i]=y at *
   generalize adV E n y=er at *
   generalize n+max 1 y.size*wds y.b=X at *
   go_wp2_with fail
   refine (uI CA).mono ?_
   rintro e V1 ⟨rfl,kk,hz⟩
   have HKK:=zH kk
   have HZ:=zH hz
   clear CA kk hz
   by_cases he:er=0
   ·subst he
    go_wp2_with fail
    go_roundg (p.globals.length - (i+1))
    case measure=>omega
    case rel =>
     have h2:=uI HE
     rw[if_neg (by simp)] at h2
     exact⟨i+1,E.addV y,X,by omega,rfl,by go_num,zH (uI HZ (by simp)),zH ⟨uI GE,uI OK (by simp),(uI HV).2.2⟩,zH h2⟩
   ·have h2:=uI HE
    rw[if_pos he] at h2
    obtain rfl:R=(er,i):=(uI HR1).trans (by rw[← h2];exact if_pos he)
    have e1:(er==0)=false:=zBq he
    have BR:=(uI HBR).low (uI HKK) (by have:=uI HS;omega)
    obtain⟨z0,z1⟩:=BR.box.at2
    have zf:=BR.box.2.2
    have zl:=BR.lt
    go_wp2_with fail
    obtain⟨p0,p1⟩:=(BR.box.twoC (.int .i64 er) (.int .i64 (i:Int))).at2
    exact bodyPost_ret (v:=.agg #[.int .i64 er,.int .i64 (i:Int)]) (by simp[results,Tryz.results5,go_sem,p0,p1]) rfl ⟨rfl,zY ((uI K0).trans ((uI HKK).mono (uI K0).size)) (by omega) _ _⟩
  ·have hiI:¬ (i:Int)<(p.globals.length:Int):=by omega
   have h2:=uI HE
   rw[List.drop_eq_nil_of_le (by omega),ckGs] at h2
   have HR2:=zH ((uI HR1).trans (show af1 p G=af2 p (ckNs p.funcs p.globals.length E) by rw[← h2];exact if_neg (by simp)))
   have BP:=(uI HBP).low (uI HC).k (by have:=uI HS;omega)
   obtain⟨c0,c1⟩:=BP.box.at2
   have hsp:=BP.lt
   have HG0:=zH (show ckNs (p.funcs.drop 0) (p.globals.length+0) E=ckNs p.funcs p.globals.length E from rfl)
   generalize ckNs p.funcs p.globals.length E=N at *
   obtain rfl:i=p.globals.length:=by omega
   have S1:=zH (uI HC)
   have EV1:=zH (uI HV).2.2
   clear HR1 h2 HE HC HV BP
   go_wp2_with fail
   clear c0 c1 hsp
   go_loopg [40] p.funcs.length (fun g t wr=>∃ (j:Nat) (F:Nev),j≤p.funcs.length∧g=p.funcs.length - j∧t=.int .i64 (j:Int)∧Hid (Ng W0.heap.size W0 wr nb vb fb p.globals.length (2+j) F n)∧Hid (EvOk F)∧Hid (ckNs (p.funcs.drop j) (p.globals.length+j) F=N))
   case atStart=>exact⟨0,E,Nat.zero_le _,rfl,rfl,S1,EV1,HG0⟩
   case round =>
    clear S1 EV1 HG0
    obtain⟨j,F,hj,hgj,rfl,HC,HV,HE⟩:=hrel
    generalize wr=V0 at *
    by_cases hlt:j<p.funcs.length
    ·obtain⟨b1,o1,pa,pc,sa,sc,rfl,hb1,hnm,hx,hy,x0,x1,x2,x3,x4⟩:=((uI HP).f.step (uI HC).k).read j hlt
     have hjI:(j:Int)<(p.funcs.length:Int):=by omega
     have hj0:(0:Int)≤(j:Int):=by omega
     have HD:=zH (show p.funcs.drop j=p.funcs[j]::p.funcs.drop (j+1) from List.drop_eq_getElem_cons hlt)
     have kal:=qaa V0 (.cells #[.string p.funcs[j].nm,.int .i64 p.funcs[j].b,.bool p.funcs[j].s,.slice pa p.funcs[j].params.length pc,.slice sa p.funcs[j].body.length sc] 41)
     have S2:=zH ((uI HC).step kal)
     have FL:=zH (show p.funcs[j].params.length≤100 by have:=((uI PG).f _ (List.getElem_mem hlt)).pl;omega)
     have hsn:=(uI HC).bx.lt
     rw[uI HD,ckNs_cons] at HE
     clear HD kal hx hy
     cases ht:F.taken p.funcs[j].nm
     ·have CA:=zH (addF_yes (uI S2) p.funcs[j] pa sa pc sc hnm (by unfold maxLen;have:=(uI PG).fl;omega) ht)
      rw[ht] at HE
      clear ht hnm S2
      generalize p.funcs[j]=y at *
      go_wp2_with fail
      refine (uI CA).mono ?_
      rintro e V1 ⟨rfl,kk⟩
      have HKK:=zH kk
      clear CA kk
      go_wp2_with fail
      go_roundg (p.funcs.length - (j+1))
      case measure=>omega
      case rel =>
       have h2:=uI HE
       rw[if_neg (by simp)] at h2
       exact⟨j+1,F.addF y,by omega,rfl,by go_num,zH (uI HKK),zH ((uI HV).addF (uI FL)),zH h2⟩
     ·have CA:=zH (addF_no (uI S2) p.funcs[j] pa sa pc sc hnm ht)
      have h2:=uI HE
      rw[if_pos ht] at h2
      obtain rfl:R=(7,p.globals.length+j):=(uI HR2).trans (by rw[← h2];exact if_pos (by simp))
      have BP:=(uI HBP).low (uI HC).k (by have:=uI HS;omega)
      clear ht hnm S2 h2 HE
      generalize p.funcs[j]=y at *
      go_wp2_with fail
      refine (uI CA).mono ?_
      rintro e V1 ⟨rfl,kk⟩
      have HKK:=zH kk
      have BR:=(uI HBR).low kk (by have:=uI HS;omega)
      have BP1:=(uI HBP).low kk (by have:=uI HS;omega)
      obtain⟨z0,z1⟩:=BR.box.at2
      have zf:=BR.box.2.2
      have zl:=BR.lt
      obtain⟨c0,c1⟩:=BP1.box.at2
      have hsp:=BP1.lt
      have hgf:p.globals.length+j≤9223372036854775807:=by have:=(uI PG).gl;have:=(uI PG).fl;omega
      clear CA kk
      go_wp2_with fail
      obtain⟨p0,p1⟩:=(BR.box.twoC (.int .i64 7) (.int .i64 ((p.globals.length:Int)+(j:Int)))).at2
      exact bodyPost_ret (v:=.agg #[.int .i64 7,.int .i64 ((p.globals.length:Int)+(j:Int))]) (by simp[results,Tryz.results5,go_sem,p0,p1]) rfl ⟨rfl,zY ((uI K0).trans ((uI HKK).mono (uI K0).size)) (by omega) _ _⟩
    ·have hjI:¬ (j:Int)<(p.funcs.length:Int):=by omega
     have h2:=uI HE
     rw[List.drop_eq_nil_of_le (by omega),ckNs] at h2
     have HR3:=zH ((uI HR2).trans (show af2 p N=af3 p F (ckFs F p.funcs p.globals.length) by rw[← h2];exact if_neg (by simp)))
     have BP:=(uI HBP).low (uI HC).k (by have:=uI HS;omega)
     obtain⟨c0,c1⟩:=BP.box.at2
     have hsp:=BP.lt
     have HG0:=zH (show ckFs F (p.funcs.drop 0) (p.globals.length+0)=ckFs F p.funcs p.globals.length from rfl)
     generalize ckFs F p.funcs p.globals.length=N3 at *
     obtain rfl:j=p.funcs.length:=by omega
     have S1:=zH (uI HC)
     have EV1:=zH (uI HV)
     clear HR2 h2 HE HC HV BP
     go_wp2_with fail
     clear c0 c1 hsp
     go_loopg [60] p.funcs.length (fun g t wr=>∃ (q:Nat),q≤p.funcs.length∧g=p.funcs.length - q∧t=.int .i64 (q:Int)∧Hid (Ng W0.heap.size W0 wr nb vb fb p.globals.length (2+p.funcs.length) F n)∧Hid (ckFs F (p.funcs.drop q) (p.globals.length+q)=N3))
     case atStart=>exact⟨0,Nat.zero_le _,rfl,rfl,S1,HG0⟩
     case round =>
      clear S1 HG0
      obtain⟨q,hq,hgq,rfl,HC,HE⟩:=hrel
      generalize wr=V0 at *
      by_cases hlt:q<p.funcs.length
      ·obtain⟨b1,o1,pa,pc,sa,sc,rfl,hb1,hnm,hx,hy,x0,x1,x2,x3,x4⟩:=((uI HP).f.step (uI HC).k).read q hlt
       have hqI:(q:Int)<(p.funcs.length:Int):=by omega
       have hq0:(0:Int)≤(q:Int):=by omega
       have HD:=zH (show p.funcs.drop q=p.funcs[q]::p.funcs.drop (q+1) from List.drop_eq_getElem_cons hlt)
       have kal:=qaa V0 (.cells #[.string p.funcs[q].nm,.int .i64 p.funcs[q].b,.bool p.funcs[q].s,.slice pa p.funcs[q].params.length pc,.slice sa p.funcs[q].body.length sc] 41)
       have S2:=zH ((uI HC).step kal)
       have FG:=(uI PG).f _ (List.getElem_mem hlt)
       have hle:=(uI HC).le
       have CA:=zH (wrongF_any F p.funcs[q] pa sa pc sc W0.heap.size _ vb fb n (uI S2).nm (uI S2).le (hx.step (kal.mono hle)) (hy.step (kal.mono hle)) (fun z hz=>(FG.ps z hz).1) FG.st (nmSs_of hy) (by have:=FG.pl;have:=FG.sz;omega))
       obtain⟨n0,n1,n2⟩:=(uI HC).bx.box.at3
       have hsn:=(uI HC).bx.lt
       rw[uI HD,ckFs_cons] at HE
       have BP:=(uI HBP).low (uI HC).k (by have:=uI HS;omega)
       clear HD kal hx hy FG hle hnm
       generalize p.funcs[q]=y at *
       generalize ckF F y=er at *
       go_wp2_with fail
       refine (uI CA).mono ?_
       rintro e V1 ⟨rfl,kk⟩
       have S3:=zH ((uI S2).step kk)
       clear CA kk S2 n0 n1 n2 hsn
       by_cases he:er=0
       ·subst he
        go_wp2_with fail
        go_roundg (p.funcs.length - (q+1))
        case measure=>omega
        case rel =>
         have h2:=uI HE
         rw[if_neg (by simp)] at h2
         exact⟨q+1,by omega,rfl,by go_num,S3,zH h2⟩
       ·have h2:=uI HE
        rw[if_pos he] at h2
        obtain rfl:R=(er,p.globals.length+q):=(uI HR3).trans (by rw[← h2];exact if_pos he)
        have e1:(er==0)=false:=zBq he
        have HKK:=zH (uI S3).k
        have BR:=(uI HBR).low (uI HKK) (by have:=uI HS;omega)
        have BP1:=(uI HBP).low (uI HKK) (by have:=uI HS;omega)
        obtain⟨z0,z1⟩:=BR.box.at2
        have zf:=BR.box.2.2
        have zl:=BR.lt
        obtain⟨c0,c1⟩:=BP1.box.at2
        have hsp:=BP1.lt
        have hgf:p.globals.length+q≤9223372036854775807:=by have:=(uI PG).gl;have:=(uI PG).fl;omega
        clear h2
        go_wp2_with fail
        obtain⟨p0,p1⟩:=(BR.box.twoC (.int .i64 er) (.int .i64 ((p.globals.length:Int)+(q:Int)))).at2
        exact bodyPost_ret (v:=.agg #[.int .i64 er,.int .i64 ((p.globals.length:Int)+(q:Int))]) (by simp[results,Tryz.results5,go_sem,p0,p1]) rfl ⟨rfl,zY ((uI K0).trans ((uI HKK).mono (uI K0).size)) (by omega) _ _⟩
      ·have hqI:¬ (q:Int)<(p.funcs.length:Int):=by omega
       have h2:=uI HE
       rw[List.drop_eq_nil_of_le (by omega),ckFs] at h2
       have HR4:=zH ((uI HR3).trans (show af3 p F N3=if mainB F=true then (0,0) else (6,p.globals.length+p.funcs.length) by rw[← h2];exact if_neg (by simp)))
       have CA:=zH (hasMain_any (uI HC) (fun z hz=>uI EV1 _ z hz))
       have S2:=zH (uI HC)
       clear h2 HE HC HR3
       generalize mainB F=mb at *
       go_wp2_with fail
       refine (uI CA).mono ?_
       rintro e V1 ⟨rfl,kk⟩
       have HKK:=zH ((uI S2).step kk).k
       have BR:=(uI HBR).low (uI HKK) (by have:=uI HS;omega)
       have BP1:=(uI HBP).low (uI HKK) (by have:=uI HS;omega)
       obtain⟨z0,z1⟩:=BR.box.at2
       have zf:=BR.box.2.2
       have zl:=BR.lt
       obtain⟨c0,c1⟩:=BP1.box.at2
       have hsp:=BP1.lt
       have hgf:p.globals.length+p.funcs.length≤9223372036854775807:=by have:=(uI PG).gl;have:=(uI PG).fl;omega
       clear CA kk
       cases mb
       ·obtain rfl:R=(6,p.globals.length+p.funcs.length):=(uI HR4).trans (if_neg (by simp))
        go_wp2_with fail
        obtain⟨p0,p1⟩:=(BR.box.twoC (.int .i64 6) (.int .i64 ((p.globals.length:Int)+(p.funcs.length:Int)))).at2
        exact bodyPost_ret (v:=.agg #[.int .i64 6,.int .i64 ((p.globals.length:Int)+(p.funcs.length:Int))]) (by simp[results,Tryz.results5,go_sem,p0,p1]) rfl ⟨rfl,zY ((uI K0).trans ((uI HKK).mono (uI K0).size)) (by omega) _ _⟩
       ·obtain rfl:R=(0,0):=(uI HR4).trans (if_pos rfl)
        go_wp2_with fail
        obtain⟨p0,p1⟩:=(BR.box.twoC (.int .i64 0) (.int .i64 (0))).at2
        exact bodyPost_ret (v:=.agg #[.int .i64 0,.int .i64 (0)]) (by simp[results,Tryz.results5,go_sem,p0,p1]) rfl ⟨rfl,zY ((uI K0).trans ((uI HKK).mono (uI K0).size)) (by omega) _ _⟩
end Go.Proofs.YtjpnnmkefaodoaaGreat
