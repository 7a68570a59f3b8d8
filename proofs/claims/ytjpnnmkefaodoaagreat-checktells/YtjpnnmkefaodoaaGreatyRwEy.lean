/-
  RwE.
-/
import Derived.Test.YtjpnnmkefaodoaaGreatyRwDy
set_option maxHeartbeats 8000000
set_option maxRecDepth 100000
namespace Go.Proofs.YtjpnnmkefaodoaaGreat
open Go.RowKit Go.Great
set_option linter.unusedSimpArgs false
set_option linter.unusedVariables false
theorem thn_thn (r:Int × Nat)(f g:Nat→Int × Nat):thn (thn r f) g=thn r fun c=>thn (f c) g:=by
 obtain⟨e,c⟩:=r
 by_cases h:e=0
 ·subst h;rw[qam,qam]
 ·rw[qan h,qan h,qan h]
theorem rwrong_any (p:Pg)(v1 v2:Value)(w:World)(hp:PgL w.heap.size w v1 v2 p):Calls Tryz.prog 15 #[.agg #[v1,v2]] w fun e w'=>e=.returned (.int .i64 (lkP p).1)∧Below w.heap.size w w':=by
 obtain⟨ga,gc,rfl,hgm⟩:=hp.g.slice
 obtain⟨fa,fc,rfl,hfm⟩:=hp.f.slice
 unfold maxLen at hgm hfm
 have k1:=qaa w (.cells #[.slice ga p.globals.length gc,.slice fa p.funcs.length fc] 25)
 have k2:=bT k1 (qaa _ (.cells #[.int .i64 0] 91))
 have HBX:=zH ((Box.new w #[.slice ga p.globals.length gc,.slice fa p.funcs.length fc] 25).step (qaa _ (.cells #[.int .i64 0] 91)))
 have HCT:=zH (show Box ((w.alloc (.cells #[.slice ga p.globals.length gc,.slice fa p.funcs.length fc] 25)).alloc (.cells #[.int .i64 0] 91)) (w.heap.size+1) [.int .i64 ((0:Nat):Int)] by have:=Box.new (w.alloc (.cells #[.slice ga p.globals.length gc,.slice fa p.funcs.length fc] 25)) #[.int .i64 0] 91;simpa using this)
 have hs2:((w.alloc (.cells #[.slice ga p.globals.length gc,.slice fa p.funcs.length fc] 25)).alloc (.cells #[.int .i64 0] 91)).heap.size=w.heap.size+2:=by simp
 have S2:=zH hs2
 have K1:=zH k1
 have K2:=zH k2
 have HP:=zH (hp.step k2)
 have EQ:Hid (lkP p=if 100<p.funcs.length then (5,0) else thn (lkGs p.globals 0) (lkFs p.funcs)):=rfl
 clear k1 k2 hp hs2
 generalize lkP p=R at *
 obtain⟨gs,fs⟩:=p
 dsimp only at *
 by_cases h1:100<fs.length
 ·have h1I:(100:Int)<(fs.length:Int):=by omega
  have E1:=uI EQ
  rw[if_pos h1] at E1
  subst E1
  go_enter Tryz.func15,Tryz.ntmps15
  go_wp2_with fail
  go_ret
  exact⟨rfl,uI K1⟩
 ·have h1I:¬ (100:Int)<(fs.length:Int):=by omega
  have E1:=uI EQ
  rw[if_neg h1] at E1
  have E2:=zH E1.symm
  clear E1 EQ K1
  obtain⟨q0,q1⟩:=(uI HBX).at2
  go_enter Tryz.func15,Tryz.ntmps15
  go_wp2_with fail
  clear q0 q1
  generalize (w.alloc (.cells #[.slice ga gs.length gc,.slice fa fs.length fc] 25)).alloc (.cells #[.int .i64 0] 91)=w2 at *
  have hw2:=uI S2
  have HB:Hid (w.heap.size≤w.heap.size+1):=Nat.le_succ _
  go_loopg [27] gs.length (fun g t wr=>∃ (i ci:Nat),i≤gs.length∧g=gs.length - i∧t=.int .i64 (i:Int)∧ci≤20000∧Hid (Ctd w2 wr (w.heap.size+1) ci)∧Hid (thn (lkGs (gs.drop i) ci) (lkFs fs)=R))
  case atStart=>exact⟨0,0,Nat.zero_le _,rfl,rfl,by omega,⟨uI HCT,Kb.refl _ _⟩,E2⟩
  case round =>
   obtain⟨i,ci,hi,hg,rfl,hci,HC,HE⟩:=hrel
   generalize wr=W0 at *
   have hsz:=(uI HC).kb.size
   have hP0:=(uI HP).step ((uI HC).kb.below (by omega) (uI HB))
   by_cases hlt:i<gs.length
   ·obtain⟨b1,o1,ka,kc,rfl,hb1,hnm,hx,x0,x1,x2,x3,x4⟩:=hP0.g.read i hlt
    have hiI:(i:Int)<(gs.length:Int):=by omega
    have hi0:(0:Int)≤(i:Int):=by omega
    have HD:=zH (show gs.drop i=gs[i]::gs.drop (i+1) from List.drop_eq_getElem_cons hlt)
    rw[uI HD,lkGs_cons,thn_thn] at HE
    obtain⟨-,-,-,hlm,-⟩:=hx.at
    unfold maxLen at hlm
    have kb:=qaa W0 (.cells #[.int .i64 gs[i].b,.bool gs[i].s,.string gs[i].nm,.int .i64 gs[i].size,.slice ka gs[i].init.length kc] 37)
    have C1:=zH ((uI HC).trans (Ctd.of (uI HC).box kb))
    have HX1:=zH (hx.step (kb.mono (by omega)))
    have HBG:=zH (Box.new W0 #[.int .i64 gs[i].b,.bool gs[i].s,.string gs[i].nm,.int .i64 gs[i].size,.slice ka gs[i].init.length kc] 37)
    have TA:=zH (rtyped_any gs[i].b gs[i].s gs[i].nm (W0.alloc (.cells #[.int .i64 gs[i].b,.bool gs[i].s,.string gs[i].nm,.int .i64 gs[i].size,.slice ka gs[i].init.length kc] 37)) hnm)
    have EG:Hid (lkG gs[i] ci=if wTyped gs[i].b gs[i].nm≠0 then (wTyped gs[i].b gs[i].nm,ci) else if gs[i].size<0∨8000<gs[i].size then (3,ci) else if (max 1 gs[i].size)<(gs[i].init.length:Int) then (5,ci) else if nodeW 1 ci≠0 then (nodeW 1 ci,ci+1) else lkEs gs[i].init 2 (ci+1)):=rfl
    have ND:=zH (fun W hb'=>qao (w.heap.size+1) ci 1 W hb' hci (by omega))
    have HN:=zH (fun h=>qaf (d:=1) (c:=ci) h)
    clear HD kb hx hnm hP0 HC
    generalize gs[i]=y at *
    generalize lkG y ci=RG at *
    generalize wTyped y.b y.nm=wt at *
    generalize nodeW 1 ci=nw at *
    obtain⟨yb,ys,yn,size,l⟩:=y
    dsimp only at *
    go_wp2_with fail
    refine (uI TA).mono ?_
    rintro e w3 ⟨rfl,k3⟩
    have C3:=zH ((uI C1).trans (Ctd.of (uI C1).box k3))
    have HX3:=zH ((uI HX1).step (k3.mono (by simp;omega)))
    have BG3:=(uI HBG).step k3
    obtain⟨q0,q1,q2,q3,q4⟩:=qat BG3
    have HBG3:=zH BG3
    have hw3:W0.heap.size<w3.heap.size:=BG3.1
    clear TA k3 C1 HX1 HBG BG3 x0 x1 x2 x3 x4
    by_cases h2:wt=0
    rotate_left
    ·have e2:(wt==0)=false:=zBq h2
     have E3:=uI EG
     rw[if_pos h2] at E3
     subst E3
     rw[qan h2] at HE
     have h9:=uI HE
     subst h9
     go_wp2_with fail
     go_ret
     exact⟨rfl,(uI K2).trans ((uI C3).kb.below (by omega) (uI HB))⟩
    subst h2
    have E3:=uI EG
    rw[if_neg (by simp)] at E3
    clear EG
    by_cases h3:size<0
    ·rw[if_pos (.inl h3)] at E3
     subst E3
     rw[qan (by simp)] at HE
     have h9:=uI HE
     subst h9
     go_wp2_with fail
     go_ret
     exact⟨rfl,(uI K2).trans ((uI C3).kb.below (by omega) (uI HB))⟩
    by_cases h4:8000<size
    ·rw[if_pos (.inr h4)] at E3
     subst E3
     rw[qan (by simp)] at HE
     have h9:=uI HE
     subst h9
     go_wp2_with fail
     go_ret
     exact⟨rfl,(uI K2).trans ((uI C3).kb.below (by omega) (uI HB))⟩
    rw[if_neg (by omega)] at E3
    have hmx:(max 1 size<(l.length:Int))↔(1<(l.length:Int)∧size<(l.length:Int)):=by omega
    have hcs:(1<(l.length:Int)∧size<(l.length:Int))∨(¬ 1<(l.length:Int))∨(1<(l.length:Int)∧¬ size<(l.length:Int)):=by omega
    rcases hcs with hcs|hcs|hcs
    ·rw[if_pos (hmx.2 hcs)] at E3
     subst E3
     rw[qan (by simp)] at HE
     have h9:=uI HE
     subst h9
     obtain⟨hca,hcb⟩:=hcs
     go_wp2_with fail
     go_ret
     exact⟨rfl,(uI K2).trans ((uI C3).kb.below (by omega) (uI HB))⟩
    rotate_left
    obtain⟨hca,hcb⟩:=hcs
    all_goals
     rw[if_neg (by omega)] at E3
     have EG:=zH E3
     clear E3 hmx
     go_wp2_with fail
     refine (uI ND _ (uI C3).box).mono ?_
     rintro e w4 ⟨rfl,k4⟩
     have C4:=zH ((uI C3).trans k4)
     have BG4:=(uI HBG3).kb k4.kb (by omega)
     clear q0 q1 q2 q3 q4
     obtain⟨q0,q1,q2,q3,q4⟩:=qat BG4
     have hw4:W0.heap.size<w4.heap.size:=BG4.1
     have HX4:=zH ((uI HX3).step (k4.kb.below (by omega) (uI HB)))
     clear ND k4 HBG3 HX3 C3 BG4
     by_cases h5:nw=0
     rotate_left
     ·have e5:(nw==0)=false:=zBq h5
      have E3:=uI EG
      rw[if_pos h5] at E3
      subst E3
      rw[qan h5] at HE
      have h9:=uI HE
      subst h9
      go_wp2_with fail
      go_ret
      exact⟨rfl,(uI K2).trans ((uI C4).kb.below (by omega) (uI HB))⟩
     subst h5
     obtain⟨hc1,-⟩:=uI HN rfl
     have E3:=uI EG
     rw[if_neg (by simp)] at E3
     have E4:=zH E3.symm
     clear EG E3 HN
     go_wp2_with fail
     go_loopg [67] l.length (fun g t wr=>∃ (j cj:Nat),j≤l.length∧g=l.length - j∧t=.int .i64 (j:Int)∧cj≤20000∧Hid (Ctd w2 wr (w.heap.size+1) cj)∧Hid (ExL w.heap.size wr (.slice ka l.length kc) l)∧Hid (lkEs (l.drop j) 2 cj=RG))
     case atStart=>exact⟨0,ci+1,Nat.zero_le _,rfl,rfl,hc1,C4,HX4,E4⟩
     case round =>
      obtain⟨j,cj,hj,hgj,rfl,hcj,HCj,HXj,HEj⟩:=hrel
      generalize wr=V0 at *
      have hsv:=(uI HCj).kb.size
      clear q0 q1 q2 q3 q4 C4 HX4 E4
      by_cases hltj:j<l.length
      ·have hn:l≠[]:=by intro h;rw[h] at hltj;simp at hltj
       obtain⟨ao',cap',e1,-,hat⟩:=(uI HXj).at
       injection e1 with e1 _ e2
       subst e1 e2
       obtain⟨b2,o2,rfl,hb2,hbw2,hcc⟩:=hat hn
       obtain⟨kv,hk',hf',x0,x1,x2,x3,x4,x5⟩:=hcc j hltj
       obtain⟨ak,ck,rfl,-,-⟩:=hk'.at
       have hjI:(j:Int)<(l.length:Int):=by omega
       have hj0:(0:Int)≤(j:Int):=by omega
       have HD:=zH (show l.drop j=l[j]::l.drop (j+1) from List.drop_eq_getElem_cons hltj)
       have kb:=qaa V0 (.cells #[.int .i64 l[j].k,.int .u64 l[j].n,.int .i64 l[j].b,.bool l[j].s,.string l[j].nm,.slice ak l[j].kids.length ck] 57)
       have CA:=zH (rexpr_any l[j] w.heap.size (w.heap.size+1) cj 2 _ _ ((uI HCj).box.step kb) (uI HB) hcj (by omega) (hk'.step (kb.mono (by omega))) hf')
       have KA:=zH (Kb.of (b:=w.heap.size+1) kb)
       have LE:=zH (qa7 l[j] 2 cj hcj)
       rw[uI HD,lkEs_cons] at HEj
       clear hat hcc hk' kb HD hf'
       generalize l[j]=y at *
       generalize lkE y 2 cj=ry at *
       obtain⟨er,cn⟩:=ry
       dsimp only at CA LE HEj
       go_wp2_with fail
       refine (uI CA).mono ?_
       rintro e w5 ⟨rfl,k5⟩
       have kall:=(uI KA).trans k5.kb
       have K5:=zH (show Ctd w2 w5 (w.heap.size+1) cn from⟨k5.box,(uI HCj).kb.trans kall⟩)
       have HX5:=zH ((uI HXj).step (kall.below (by omega) (uI HB)))
       clear CA k5 KA HCj kall HXj
       by_cases he:er=0
       ·subst he
        go_wp2_with fail
        go_roundg (l.length - (j+1))
        case measure=>omega
        case rel =>
         have h2:=uI HEj
         rw[if_neg (by simp)] at h2
         exact⟨j+1,cn,by omega,rfl,by go_num,uI LE (by simp),K5,HX5,h2⟩
       ·have ee:(er==0)=false:=zBq he
        have h2:=uI HEj
        rw[if_pos he] at h2
        subst h2
        rw[qan he] at HE
        have h9:=uI HE
        subst h9
        go_wp2_with fail
        go_ret
        exact⟨rfl,(uI K2).trans ((uI K5).kb.below (by omega) (uI HB))⟩
      ·have hjI:¬ (j:Int)<(l.length:Int):=by omega
       have h2:=uI HEj
       rw[List.drop_eq_nil_of_le (by omega),lkEs] at h2
       subst h2
       rw[qam] at HE
       go_wp2_with fail
       go_roundg (gs.length - (i+1))
       case measure=>omega
       case rel=>exact⟨i+1,cj,by omega,rfl,by go_num,hcj,HCj,HE⟩
   ·have hiI:¬ (i:Int)<(gs.length:Int):=by omega
    rw[List.drop_eq_nil_of_le (by omega),lkGs,qam] at HE
    have HP1:=zH hP0
    have HBX1:=(uI HBX).kb (uI HC).kb (by omega)
    obtain⟨q0,q1⟩:=HBX1.at2
    have hw0:w.heap.size<W0.heap.size:=HBX1.1
    clear hP0 HP HBX HBX1
    go_wp2_with fail
    go_loopg [82] fs.length (fun g t wr=>∃ (j cj:Nat),j≤fs.length∧g=fs.length - j∧t=.int .i64 (j:Int)∧cj≤20000∧Hid (Ctd W0 wr (w.heap.size+1) cj)∧Hid (lkFs (fs.drop j) cj=R))
    case atStart=>exact⟨0,ci,Nat.zero_le _,rfl,rfl,hci,⟨(uI HC).box,Kb.refl _ _⟩,HE⟩
    case round =>
     obtain⟨j,cj,hj,hgj,rfl,hcj,HCj,HEj⟩:=hrel
     generalize wr=V0 at *
     have hsv:=(uI HCj).kb.size
     have hPj:=(uI HP1).step ((uI HCj).kb.below (by omega) (uI HB))
     have CJ:=zH ((uI HC).trans (uI HCj))
     by_cases hltj:j<fs.length
     rotate_left
     ·have hjI:¬ (j:Int)<(fs.length:Int):=by omega
      have h2:=uI HEj
      rw[List.drop_eq_nil_of_le (by omega),lkFs] at h2
      subst h2
      go_wp2_with fail
      go_ret
      exact⟨rfl,(uI K2).trans ((uI CJ).kb.below (by omega) (uI HB))⟩
     obtain⟨b1,o1,pa,pc,sa,sc,rfl,hb1,hnm,hx,hy,x0,x1,x2,x3,x4⟩:=hPj.f.read j hltj
     have hjI:(j:Int)<(fs.length:Int):=by omega
     have hj0:(0:Int)≤(j:Int):=by omega
     have HD:=zH (show fs.drop j=fs[j]::fs.drop (j+1) from List.drop_eq_getElem_cons hltj)
     rw[uI HD,lkFs_cons] at HEj
     obtain⟨-,-,-,hpm⟩:=hx.slice
     unfold maxLen at hpm
     have kb:=qaa V0 (.cells #[.string fs[j].nm,.int .i64 fs[j].b,.bool fs[j].s,.slice pa fs[j].params.length pc,.slice sa fs[j].body.length sc] 41)
     have C1:=zH ((uI HCj).trans (Ctd.of (uI HCj).box kb))
     have HX1:=zH (hx.step (kb.mono (by omega)))
     have HY1:=zH (hy.step (kb.mono (by omega)))
     have HBG:=zH (Box.new V0 #[.string fs[j].nm,.int .i64 fs[j].b,.bool fs[j].s,.slice pa fs[j].params.length pc,.slice sa fs[j].body.length sc] 41)
     have NA:=zH (rnamed8 fs[j].nm (V0.alloc (.cells #[.string fs[j].nm,.int .i64 fs[j].b,.bool fs[j].s,.slice pa fs[j].params.length pc,.slice sa fs[j].body.length sc] 41)) hnm)
     have VA:=zH (fun W=>rvalid8 fs[j].b fs[j].s W)
     have EG:Hid (lkF fs[j] cj=if namN fs[j].nm=false then (7,cj) else if isWB fs[j].b=false∧¬ (fs[j].b=0∧fs[j].s=false) then (9,cj) else if 8<fs[j].params.length then (5,cj) else if lkPs fs[j].params≠0 then (lkPs fs[j].params,cj) else if nodeW 1 cj≠0 then (nodeW 1 cj,cj+1) else lkSs fs[j].body 2 (cj+1)):=rfl
     have ND:=zH (fun W hb'=>qao (w.heap.size+1) cj 1 W hb' hcj (by omega))
     have HN:=zH (fun h=>qaf (d:=1) (c:=cj) h)
     have SX:=zH (fun (W:World) (c':Nat) (hb':Box W (w.heap.size+1) [.int .i64 (c':Int)]) (hc':c'≤20000) (hx':SmL w.heap.size W (.slice sa fs[j].body.length sc) fs[j].body)=>rstats_any fs[j].body (fun y _=>qa0 y) (fun y _=>rstat_any y) w.heap.size (w.heap.size+1) c' 2 (.slice sa fs[j].body.length sc) W hb' (uI HB) hc' (by omega) hx')
     have LEB:=zH (lkSs_le2 fs[j].body 2 (cj+1))
     clear HD kb hx hy hnm hPj HCj CJ q0 q1
     generalize fs[j]=y at *
     generalize lkF y cj=RG at *
     generalize namN y.nm=nn at *
     generalize nodeW 1 cj=nw at *
     generalize hisW:isWB y.b=vv at *
     generalize hRB:lkSs y.body 2 (cj+1)=RB at EG
     have HRB:=zH hRB
     generalize hRP:lkPs y.params=RP at EG
     have HRP:=zH hRP
     clear hRB hRP
     obtain⟨yn,yb,ys,ps,l⟩:=y
     dsimp only at *
     go_wp2_with fail
     refine (uI NA).mono ?_
     rintro e w3 ⟨rfl,k3⟩
     have C3:=zH ((uI C1).trans (Ctd.of (uI C1).box k3))
     have HX3:=zH ((uI HX1).step (k3.mono (by simp;omega)))
     have HY3:=zH ((uI HY1).step (k3.mono (by simp;omega)))
     have BG3:=(uI HBG).step k3
     obtain⟨q0,q1,q2,q3,q4⟩:=qat BG3
     have HBG3:=zH BG3
     have hw3:V0.heap.size<w3.heap.size:=BG3.1
     clear NA k3 C1 HX1 HY1 HBG BG3 x0 x1 x2 x3 x4
     cases nn
     ·have E3:=uI EG
      rw[if_pos rfl] at E3
      subst E3
      rw[qan (by simp)] at HEj
      have h9:=uI HEj
      subst h9
      go_wp2_with fail
      go_ret
      exact⟨rfl,(uI K2).trans (((uI HC).trans (uI C3)).kb.below (by omega) (uI HB))⟩
     have E3:=uI EG
     rw[if_neg (by simp)] at E3
     have E4:=zH E3
     clear E3 EG
     by_cases hz:yb=0∧ys=false
     ·obtain⟨rfl,rfl⟩:=hz
      have E5:=uI E4
      rw[if_neg (by simp)] at E5
      have E6:=zH E5
      clear E5 E4 VA
      by_cases h8:8<ps.length
      ·have h8I:(8:Int)<(ps.length:Int):=by omega
       have E7:=uI E6
       rw[if_pos h8] at E7
       subst E7
       rw[qan (by simp)] at HEj
       have h9:=uI HEj
       subst h9
       go_wp2_with fail
       go_ret
       exact⟨rfl,(uI K2).trans (((uI HC).trans (uI C3)).kb.below (by omega) (uI HB))⟩
      have h8I:¬ (8:Int)<(ps.length:Int):=by omega
      have E7:=uI E6
      rw[if_neg h8] at E7
      have E8:=zH E7
      clear E7 E6
      go_wp2_with fail
      go_loopg [107] ps.length (fun g t wr=>∃ (i:Nat),i≤ps.length∧g=ps.length - i∧t=.int .i64 (i:Int)∧Hid (Below w3.heap.size w3 wr)∧Hid (lkPs (ps.drop i)=RP))
      case atStart=>exact⟨0,Nat.zero_le _,rfl,rfl,Below.refl _ _,HRP⟩
      case round =>
       obtain⟨i,hi,hg,rfl,HK,HE⟩:=hrel
       generalize wr=U0 at *
       have hsz:=(uI HK).size
       by_cases hlt:i<ps.length
       ·obtain⟨b2,o2,rfl,hb2,hnm2,x0,x1,x2⟩:=((uI HX3).step ((uI HK).mono (by omega))).read i hlt
        have hiI:(i:Int)<(ps.length:Int):=by omega
        have hi0:(0:Int)≤(i:Int):=by omega
        have HD:=zH (show ps.drop i=ps[i]::ps.drop (i+1) from List.drop_eq_getElem_cons hlt)
        rw[uI HD,lkPs_cons] at HE
        clear HD
        have ka:=qaa U0 (.cells #[.int .i64 ps[i].b,.bool ps[i].s,.string ps[i].nm] 74)
        have NB:=zH (rtyped_any ps[i].b ps[i].s ps[i].nm (U0.alloc (.cells #[.int .i64 ps[i].b,.bool ps[i].s,.string ps[i].nm] 74)) hnm2)
        have KA:=zH (bT (uI HK) ka)
        clear ka hnm2
        generalize ps[i]=y at *
        obtain⟨zb,zs,zn⟩:=y
        dsimp only at *
        generalize wTyped zb zn=wt at *
        go_wp2_with fail
        refine (uI NB).mono ?_
        rintro e w4 ⟨rfl,k4⟩
        have K4:=zH (bT (uI KA) k4)
        clear NB k4 KA HK
        by_cases h5:wt=0
        ·subst h5
         go_wp2_with fail
         go_roundg (ps.length - (i+1))
         case measure=>omega
         case rel =>
          have h2:=uI HE
          rw[if_neg (by simp)] at h2
          exact⟨i+1,by omega,rfl,by go_num,K4,h2⟩
        ·have e5:(wt==0)=false:=zBq h5
         have h2:=uI HE
         rw[if_pos h5] at h2
         subst h2
         have E9:=uI E8
         rw[if_pos h5] at E9
         subst E9
         rw[qan h5] at HEj
         have h9:=uI HEj
         subst h9
         go_wp2_with fail
         go_ret
         exact⟨rfl,(uI K2).trans (((uI HC).trans ((uI C3).trans (Ctd.of (uI C3).box (uI K4)))).kb.below (by omega) (uI HB))⟩
       ·have hiI:¬ (i:Int)<(ps.length:Int):=by omega
        have h2:=uI HE
        rw[List.drop_eq_nil_of_le (by omega),lkPs] at h2
        subst h2
        have E9:=uI E8
        rw[if_neg (by simp)] at E9
        have E10:=zH E9
        clear E9 E8 HE
        have C5:=zH ((uI C3).trans (Ctd.of (uI C3).box (uI HK)))
        have HB5:=zH ((uI HBG3).step (uI HK))
        have HY5:=zH ((uI HY3).step ((uI HK).mono (by omega)))
        clear C3 HBG3 HY3 HX3 HK q0 q1 q2 q3 q4
        go_wp2_with fail
        refine (uI ND _ (uI C5).box).mono ?_
        rintro e w6 ⟨rfl,k6⟩
        have C6:=zH ((uI C5).trans k6)
        have BX6:=(uI HB5).kb k6.kb (by omega)
        obtain⟨s0,s1,s2,s3,s4⟩:=qat BX6
        have hw6:V0.heap.size<w6.heap.size:=BX6.1
        have HY6:=zH ((uI HY5).step (k6.kb.below (by omega) (uI HB)))
        clear ND k6 HB5 HY5 C5 BX6
        by_cases h5:nw=0
        rotate_left
        ·have e5:(nw==0)=false:=zBq h5
         have E11:=uI E10
         rw[if_pos h5] at E11
         subst E11
         rw[qan h5] at HEj
         have h9:=uI HEj
         subst h9
         go_wp2_with fail
         go_ret
         exact⟨rfl,(uI K2).trans (((uI HC).trans (uI C6)).kb.below (by omega) (uI HB))⟩
        subst h5
        obtain⟨hc1,-⟩:=uI HN rfl
        have E11:=uI E10
        rw[if_neg (by simp)] at E11
        clear E10
        subst E11
        have CA:=zH (uI SX _ (cj+1) (uI C6).box hc1 (uI HY6))
        have LB:=zH (uI LEB hc1)
        rw[uI HRB] at CA LB
        clear SX LEB HRB
        obtain⟨er,cn⟩:=RG
        dsimp only at CA LB
        go_wp2_with fail
        refine (uI CA).mono ?_
        rintro e w7 ⟨rfl,k7⟩
        have C7:=zH ((uI C6).trans k7)
        clear CA k7 C6 s0 s1 s2 s3 s4
        by_cases he:er=0
        ·subst he
         rw[qam] at HEj
         go_wp2_with fail
         go_roundg (fs.length - (j+1))
         case measure=>omega
         case rel=>exact⟨j+1,cn,by omega,rfl,by go_num,uI LB (by simp),C7,HEj⟩
        ·have ee:(er==0)=false:=zBq he
         rw[qan he] at HEj
         have h9:=uI HEj
         subst h9
         go_wp2_with fail
         go_ret
         exact⟨rfl,(uI K2).trans (((uI HC).trans (uI C7)).kb.below (by omega) (uI HB))⟩
     ·have hnz:¬ (yb=0∧ys=false):=hz
      by_cases hb0:yb=0
      ·have hs1:ys=true:=by cases ys;exact absurd ⟨hb0,rfl⟩ hz;rfl
       subst hb0 hs1
       have hvv:vv=false:=by rw[← hisW];rfl
       subst hvv
       have E5:=uI E4
       rw[if_pos ⟨rfl,hnz⟩] at E5
       subst E5
       rw[qan (by simp)] at HEj
       have h9:=uI HEj
       subst h9
       go_wp2_with fail
       refine (uI VA _).mono ?_
       rintro e w4 ⟨rfl,k4⟩
       have C4:=zH ((uI C3).trans (Ctd.of (uI C3).box k4))
       go_wp2_with fail
       go_ret
       exact⟨rfl,(uI K2).trans (((uI HC).trans (uI C4)).kb.below (by omega) (uI HB))⟩
      ·have eb:(yb==0)=false:=zBq hb0
       cases vv
       ·have E5:=uI E4
        rw[if_pos ⟨rfl,hnz⟩] at E5
        subst E5
        rw[qan (by simp)] at HEj
        have h9:=uI HEj
        subst h9
        go_wp2_with fail
        refine (uI VA _).mono ?_
        rintro e w4 ⟨rfl,k4⟩
        have C4:=zH ((uI C3).trans (Ctd.of (uI C3).box k4))
        go_wp2_with fail
        go_ret
        exact⟨rfl,(uI K2).trans (((uI HC).trans (uI C4)).kb.below (by omega) (uI HB))⟩
       ·have E5:=uI E4
        rw[if_neg (by simp)] at E5
        have E6:=zH E5
        clear E5 E4
        go_wp2_with fail
        refine (uI VA _).mono ?_
        rintro e w3b ⟨rfl,k3b⟩
        have C3b:=zH ((uI C3).trans (Ctd.of (uI C3).box k3b))
        have HX3b:=zH ((uI HX3).step (k3b.mono (by omega)))
        have HY3b:=zH ((uI HY3).step (k3b.mono (by omega)))
        have BG3b:=(uI HBG3).step k3b
        clear q0 q1 q2 q3 q4
        obtain⟨q0,q1,q2,q3,q4⟩:=qat BG3b
        have HBG3b:=zH BG3b
        have hw3b:V0.heap.size<w3b.heap.size:=BG3b.1
        clear k3b C3 HX3 HY3 HBG3 BG3b VA
        generalize hw33:w3b=w33 at *
        have C3:=C3b
        have HX3:=HX3b
        have HY3:=HY3b
        have HBG3:=HBG3b
        clear hw33 C3b HX3b HY3b HBG3b hw3
        generalize w3=w3old at *
        generalize w33=w3 at *
        have hw3:=hw3b
        clear hw3b
        by_cases h8:8<ps.length
        ·have h8I:(8:Int)<(ps.length:Int):=by omega
         have E7:=uI E6
         rw[if_pos h8] at E7
         subst E7
         rw[qan (by simp)] at HEj
         have h9:=uI HEj
         subst h9
         go_wp2_with fail
         go_ret
         exact⟨rfl,(uI K2).trans (((uI HC).trans (uI C3)).kb.below (by omega) (uI HB))⟩
        have h8I:¬ (8:Int)<(ps.length:Int):=by omega
        have E7:=uI E6
        rw[if_neg h8] at E7
        have E8:=zH E7
        clear E7 E6
        go_wp2_with fail
        go_loopg [107] ps.length (fun g t wr=>∃ (i:Nat),i≤ps.length∧g=ps.length - i∧t=.int .i64 (i:Int)∧Hid (Below w3.heap.size w3 wr)∧Hid (lkPs (ps.drop i)=RP))
        case atStart=>exact⟨0,Nat.zero_le _,rfl,rfl,Below.refl _ _,HRP⟩
        case round =>
         obtain⟨i,hi,hg,rfl,HK,HE⟩:=hrel
         generalize wr=U0 at *
         have hsz:=(uI HK).size
         by_cases hlt:i<ps.length
         ·obtain⟨b2,o2,rfl,hb2,hnm2,x0,x1,x2⟩:=((uI HX3).step ((uI HK).mono (by omega))).read i hlt
          have hiI:(i:Int)<(ps.length:Int):=by omega
          have hi0:(0:Int)≤(i:Int):=by omega
          have HD:=zH (show ps.drop i=ps[i]::ps.drop (i+1) from List.drop_eq_getElem_cons hlt)
          rw[uI HD,lkPs_cons] at HE
          clear HD
          have ka:=qaa U0 (.cells #[.int .i64 ps[i].b,.bool ps[i].s,.string ps[i].nm] 74)
          have NB:=zH (rtyped_any ps[i].b ps[i].s ps[i].nm (U0.alloc (.cells #[.int .i64 ps[i].b,.bool ps[i].s,.string ps[i].nm] 74)) hnm2)
          have KA:=zH (bT (uI HK) ka)
          clear ka hnm2
          generalize ps[i]=y at *
          obtain⟨zb,zs,zn⟩:=y
          dsimp only at *
          generalize wTyped zb zn=wt at *
          go_wp2_with fail
          refine (uI NB).mono ?_
          rintro e w4 ⟨rfl,k4⟩
          have K4:=zH (bT (uI KA) k4)
          clear NB k4 KA HK
          by_cases h5:wt=0
          ·subst h5
           go_wp2_with fail
           go_roundg (ps.length - (i+1))
           case measure=>omega
           case rel =>
            have h2:=uI HE
            rw[if_neg (by simp)] at h2
            exact⟨i+1,by omega,rfl,by go_num,K4,h2⟩
          ·have e5:(wt==0)=false:=zBq h5
           have h2:=uI HE
           rw[if_pos h5] at h2
           subst h2
           have E9:=uI E8
           rw[if_pos h5] at E9
           subst E9
           rw[qan h5] at HEj
           have h9:=uI HEj
           subst h9
           go_wp2_with fail
           go_ret
           exact⟨rfl,(uI K2).trans (((uI HC).trans ((uI C3).trans (Ctd.of (uI C3).box (uI K4)))).kb.below (by omega) (uI HB))⟩
         ·have hiI:¬ (i:Int)<(ps.length:Int):=by omega
          have h2:=uI HE
          rw[List.drop_eq_nil_of_le (by omega),lkPs] at h2
          subst h2
          have E9:=uI E8
          rw[if_neg (by simp)] at E9
          have E10:=zH E9
          clear E9 E8 HE
          have C5:=zH ((uI C3).trans (Ctd.of (uI C3).box (uI HK)))
          have HB5:=zH ((uI HBG3).step (uI HK))
          have HY5:=zH ((uI HY3).step ((uI HK).mono (by omega)))
          clear C3 HBG3 HY3 HX3 HK q0 q1 q2 q3 q4
          go_wp2_with fail
          refine (uI ND _ (uI C5).box).mono ?_
          rintro e w6 ⟨rfl,k6⟩
          have C6:=zH ((uI C5).trans k6)
          have BX6:=(uI HB5).kb k6.kb (by omega)
          obtain⟨s0,s1,s2,s3,s4⟩:=qat BX6
          have hw6:V0.heap.size<w6.heap.size:=BX6.1
          have HY6:=zH ((uI HY5).step (k6.kb.below (by omega) (uI HB)))
          clear ND k6 HB5 HY5 C5 BX6
          by_cases h5:nw=0
          rotate_left
          ·have e5:(nw==0)=false:=zBq h5
           have E11:=uI E10
           rw[if_pos h5] at E11
           subst E11
           rw[qan h5] at HEj
           have h9:=uI HEj
           subst h9
           go_wp2_with fail
           go_ret
           exact⟨rfl,(uI K2).trans (((uI HC).trans (uI C6)).kb.below (by omega) (uI HB))⟩
          subst h5
          obtain⟨hc1,-⟩:=uI HN rfl
          have E11:=uI E10
          rw[if_neg (by simp)] at E11
          clear E10
          subst E11
          have CA:=zH (uI SX _ (cj+1) (uI C6).box hc1 (uI HY6))
          have LB:=zH (uI LEB hc1)
          rw[uI HRB] at CA LB
          clear SX LEB HRB
          obtain⟨er,cn⟩:=RG
          dsimp only at CA LB
          go_wp2_with fail
          refine (uI CA).mono ?_
          rintro e w7 ⟨rfl,k7⟩
          have C7:=zH ((uI C6).trans k7)
          clear CA k7 C6 s0 s1 s2 s3 s4
          by_cases he:er=0
          ·subst he
           rw[qam] at HEj
           go_wp2_with fail
           go_roundg (fs.length - (j+1))
           case measure=>omega
           case rel=>exact⟨j+1,cn,by omega,rfl,by go_num,uI LB (by simp),C7,HEj⟩
          ·have ee:(er==0)=false:=zBq he
           rw[qan he] at HEj
           have h9:=uI HEj
           subst h9
           go_wp2_with fail
           go_ret
           exact⟨rfl,(uI K2).trans (((uI HC).trans (uI C7)).kb.below (by omega) (uI HB))⟩
end Go.Proofs.YtjpnnmkefaodoaaGreat
