/-
  RcH, RcI, RcJ.
-/
import Derived.Test.YtjpnnmkefaodoaaGreatyRcGy
set_option maxHeartbeats 8000000
set_option maxRecDepth 100000
namespace Go.Proofs.YtjpnnmkefaodoaaGreat
open Go.RowKit Go.Maps Go.Great
set_option linter.unusedSimpArgs false
set_option linter.unusedVariables false
theorem reg_meetT {G R:Int→Bool→Option Addr→Nat→Nat→Nat→World→Prop}{p:Prop}(h1:(∀ b s a m c t W,R b s a m c t W→G b s a m c t W)→p)(h2:∀ b s a m c t W,R b s a m c t W→G b s a m c t W):p:=h1 h2
structure MtR (w:World)(B:Nat)(x:Ex)(ka:Option Addr)(kc:Nat)(O:Option (Int × Bool × Nat))(b:Int)(s:Bool)(m t:Nat)(W:World):Prop where
 tv:Tv w W B x ka kc [.int .i64 0,.bool false]
 bx:Box W t [.int .i64 b,.bool s]
 yes:∀ y,O=some y→y=(b,s,m)
 le:m≤9223372036854775807
theorem vlE_cons (E:Nev)(L:Loc)(y:Ex)(l:List Ex):(tyEs E L (y::l)).2=if (told (tyE E L y)).2≠0 then (told (tyE E L y)).2 else (tyEs E L l).2:=by
 rw[tyEs]
 by_cases h1:(told (tyE E L y)).2=0
 ·by_cases h2:(tyEs E L l).2=0 <;> simp[h1,h2]
 ·simp[h1]
theorem rtype_call (x:Ex)(ht:TvE x)(h4:x.k=4)(IH:∀ y∈x.kids,RvX y):RtX x:=by
 intro B w rb K E L lp kv h hE hL hx hf
 obtain⟨ka,kc,rfl⟩:∃ ao cap,kv=.slice ao x.kids.length cap:=by obtain⟨ao,cap,e,-⟩:=hx.at;exact⟨ao,cap,e⟩
 obtain⟨_,lo,hi,kl,kh,-,-,-⟩:=ht
 have hk8:x.kids.length≤8:=by unfold kidHi at kh;(repeat' split at kh);all_goals omega
 clear lo hi kl kh
 have S0:=zH (Tv.begin #[.int .i64 0,.bool false] 57 34 hx h.le)
 obtain⟨R,hR⟩:∃ R,R=tyE E L x:=⟨_,rfl⟩
 have hP:ExpR E L x w=fun e w'=>e=.returned (.tuple #[.agg #[.int .i64 R.1.1,.bool R.1.2],.int .i64 R.2])∧Below w.heap.size w w':=by rw[hR];rfl
 rw[hP]
 clear hP
 have hR2:R=match E.f x.nm with
   | none=>((0,false),7)
   | some (fb,fs,m)=>if x.kids.length=m then (if (tyEs E L x.kids).2=0 then ((fb,fs),0) else ((0,false),(tyEs E L x.kids).2)) else ((0,false),5):=by
  rw[hR]
  obtain⟨k,n,b,s,nm,kids⟩:=x
  have h4:k=4:=h4
  rw[tyE,if_pos h4]
  rfl
 have HB:=zH h.le
 have HM:=zH h
 have HEV:=zH hE
 have HLW:=zH hL
 have HI:=zH IH
 have e4:(x.k==4)=true:=beq_iff_eq.2 h4
 obtain⟨ga,gc,eg,-⟩:=h.pg.g.slice
 obtain⟨fa,fc,ef,-⟩:=h.pg.f.slice
 have HEG:=zH (And.intro eg ef)
 have CC:=zH (fun (W:World) (hb:Below w.heap.size w W)=>by
  have:=called9_any K.p _ _ B W (h.pg.step (hb.mono h.le)) (Nat.le_trans h.le hb.size) x.nm hE.pl
  rw[← hE.f,eg,ef] at this
  exact this)
 generalize E.f x.nm=O at *
 have HR:=zH hR2
 clear eg ef
 obtain⟨a0,a1,a2,a3,a4,a5⟩:=(uI S0).A.six8
 have hsA:=(uI S0).A.1
 clear h hE hL hx hf IH hR hR2 h4
 generalize hW0:(w.alloc (.cells #[.int .i64 x.k,.int .u64 x.n,.int .i64 x.b,.bool x.s,.string x.nm,.slice ka x.kids.length kc] 57)).alloc (.cells #[.int .i64 0,.bool false] 34)=W0 at *
 go_enter Tryz.func77,Tryz.ntmps77
 go_wp2_with fail
 clear a0 a1 a2 a3 a4 a5 hsA hW0
 have CL:=zH (fun (W:World) (S:Tv w W B x ka kc [.int .i64 0,.bool false])=>by
  have M:=(uI HM).step S.d
  obtain⟨sv,hv,mv,see,had,mine,h1,-⟩:=M.has
  exact (show W.cell? ⟨rb,0,none⟩=some (.slice ga K.p.globals.length gc)∧W.cell? ⟨rb,1,none⟩=some (.slice fa K.p.funcs.length fc)∧W.cell? ⟨w.heap.size,4,none⟩=some (.string x.nm)∧rb<W.heap.size from⟨by rw[← (uI HEG).1];exact zC h1 0 _ rfl,by rw[← (uI HEG).2];exact zC h1 1 _ rfl,S.A.2.1 4 _ rfl,h1.lt⟩))
 refine zU (fun W=>W.cell? ⟨rb,0,none⟩=some (.slice ga K.p.globals.length gc)∧W.cell? ⟨rb,1,none⟩=some (.slice fa K.p.funcs.length fc)∧W.cell? ⟨w.heap.size,4,none⟩=some (.string x.nm)∧rb<W.heap.size) (by kernel_rfl) ?_
 have S1:=zH ((uI S0).next (Below.refl _ _).drew)
 clear S0
 generalize W0.drew=V8 at *
 refine qR 0 6 9 ?_
 simp only[zTD]
 repeat (refine zS (fun K hK=>?_);go_simp;first|(refine zQ ?_ (fun W hW=>?_) (hK _ ?_);rotate_left;(obtain⟨d0,d1,d2,d3⟩:=hW;go_simp;first|done|rfl);clear hK K)|(refine hK _ ?_;clear hK K))
 refine zO ?_
 apply reg_meetT (R:=fun b s _ m _ t W=>MtR w B x ka kc O b s m t W)
 ·intro hrest
  refine qbv 6 11 8 (by kernel_rfl) (by kernel_rfl) (uI CL _ (uI S1)) ?_ ?_
  all_goals simp only[zTD]
  ·have C1:=zH (uI CC V8 (uI S1).d)
   go_wp2_with fail
   refine (uI C1).mono ?_
   rintro e V1 ⟨qb,qs,qa,qc,qm,rfl,hy,hm,k1⟩
   have S2:=zH ((uI S1).next k1)
   have HY:=zH hy
   have HMM:=zH hm
   clear hy hm k1 C1
   go_wp2_with fail
   first|refine zN ?_|refine zG ?_
   refine qR 7 4 4 ?_
   simp only[zTD]
   repeat (refine zS (fun K hK=>?_);go_simp;first|(refine zQ ?_ (fun W hW=>?_) (hK _ ?_);rotate_left;(obtain⟨d0,d1,d2,d3⟩:=hW;go_simp;first|done|rfl);clear hK K)|(refine hK _ ?_;clear hK K))
   refine zO ?_
   refine qO 11 3 (uI CL _ (uI S2)) ?_
   simp only[zTD]
   go_wp2_with fail
   first|refine zN ?_|refine zG ?_
   refine qO 12 2 (uI CL _ ((uI S2).next (qaa _ _))) ?_
   simp only[zTD]
   go_wp2_with fail
   first|refine zN ?_|refine zG ?_
   have S3:=zH ((uI S2).next (qaa V1 (.cells #[.int .i64 qb,.bool qs] 34)))
   have B3:=zH (Box.new V1 #[.int .i64 qb,.bool qs] 34)
   refine qO 13 1 (uI CL _ (uI S3)) ?_
   simp only[zTD]
   go_wp2_with fail
   first|refine zN ?_|refine zG ?_
   refine qO 14 0 (uI CL _ (uI S3)) ?_
   simp only[zTD]
   go_wp2_with fail
   first|refine zN ?_|refine zG ?_
   refine zE (by kernel_rfl) (uI CL _ (uI S3)) ?_
   generalize V1.alloc (.cells #[.int .i64 qb,.bool qs] 34)=W5 at *
   generalize V1.heap.size=tb at *
   exact hrest qb qs qa qm qc tb W5 ⟨uI S3,uI B3,uI HY,uI HMM⟩
  ·go_wp2_with fail
   first|refine zN ?_|refine zG ?_
   have S2:=zH ((uI S1).next (qaa V8 (.cells #[.int .i64 0,.bool false] 34)))
   have B2:=zH (Box.new V8 #[.int .i64 0,.bool false] 34)
   have C1:=zH (uI CC _ (uI S2).d)
   refine qO 6 7 (uI CL _ (uI S2)) ?_
   simp only[zTD]
   go_wp2_with fail
   refine (uI C1).mono ?_
   rintro e V1 ⟨qb,qs,qa,qc,qm,rfl,hy,hm,k1⟩
   have S3:=zH ((uI S2).next k1)
   have B3:=zH ((uI B2).step k1)
   have HY:=zH hy
   have HMM:=zH hm
   clear hy hm k1 C1 B2 S2
   go_wp2_with fail
   first|refine zN ?_|refine zG ?_
   refine qR 7 4 3 ?_
   simp only[zTD]
   repeat (refine zS (fun K hK=>?_);go_simp;first|(refine zQ ?_ (fun W hW=>?_) (hK _ ?_);rotate_left;(obtain⟨d0,d1,d2,d3⟩:=hW;go_simp;first|done|rfl);clear hK K)|(refine hK _ ?_;clear hK K))
   refine zO ?_
   obtain⟨y0,y1⟩:=(uI B3).at2
   have yf:=(uI B3).2.2
   have yl:=(uI B3).1
   refine qO 12 2 (uI CL _ (uI S3)) ?_
   simp only[zTD]
   go_wp2_with fail
   first|refine zN ?_|refine zG ?_
   clear y0 y1 yf yl
   have S4:=zH ((uI S3).low (uI HB) (zY (b:=V8.heap.size) (Below.refl _ _) (by have:=(uI S1).R.1;omega) (.int .i64 qb) (.bool qs)))
   have B4:=zH ((uI B3).two9 (.int .i64 qb) (.bool qs))
   refine qO 13 1 (uI CL _ (uI S4)) ?_
   simp only[zTD]
   go_wp2_with fail
   first|refine zN ?_|refine zG ?_
   refine qO 14 0 (uI CL _ (uI S4)) ?_
   simp only[zTD]
   go_wp2_with fail
   first|refine zN ?_|refine zG ?_
   refine zE (by kernel_rfl) (uI CL _ (uI S4)) ?_
   generalize (V1.setCell ⟨V8.heap.size,0,none⟩ (.int .i64 qb)).setCell ⟨V8.heap.size,1,none⟩ (.bool qs)=W5 at *
   generalize V8.heap.size=tb at *
   exact hrest qb qs qa qm qc tb W5 ⟨uI S4,uI B4,uI HY,uI HMM⟩
 ·intro qb qs qa qm qc tb V1 MT
  have S3:=zH MT.tv
  have B3:=zH MT.bx
  have HY:=zH MT.yes
  have hqm:=MT.le
  clear MT CL CC S1
  obtain⟨a0,a1,a2,a3,a4,a5⟩:=(uI S3).A.six8
  have hsA:=(uI S3).A.1
  obtain⟨z0,z1⟩:=(uI S3).R.at2
  have zf:=(uI S3).R.2.2
  have zl:=(uI S3).R.1
  have HR9:=zH (uI HR)
  rcases O with _|⟨fb,fs,m⟩
  ·obtain rfl:R=((0,false),7):=uI HR9
   simp only[Option.isSome_none]
   go_wp2_with fail
   have K5:=zY (uI S3).d (show w.heap.size≤w.heap.size+1 by omega) (.int .i64 0) (.bool false)
   obtain⟨p0,p1⟩:=((uI S3).R.two9 (.int .i64 0) (.bool false)).at2
   exact bodyPost_ret (v:=.tuple #[.agg #[.int .i64 0,.bool false],.int .i64 7]) (by simp[results,Tryz.results77,go_sem,p0,p1]) rfl ⟨rfl,K5⟩
  have hy:=uI HY _ rfl
  injection hy with hy1 hy2
  injection hy2 with hy2 hy3
  subst hy1 hy2 hy3
  have HR5:=zH (show R=if x.kids.length=m then (if (tyEs E L x.kids).2=0 then ((fb,fs),0) else ((0,false),(tyEs E L x.kids).2)) else ((0,false),5) from uI HR9)
  clear HR HR9 HY
  simp only[Option.isSome_some]
  by_cases hml:x.kids.length=m
  rotate_left
  ·obtain rfl:R=((0,false),5):=by rw[uI HR5,if_neg hml]
   have em:((m:Int)==(x.kids.length:Int))=false:=zBq (by omega)
   have HML:=zH hml
   clear hml
   go_wp2_with fail
   have K5:=zY (uI S3).d (show w.heap.size≤w.heap.size+1 by omega) (.int .i64 0) (.bool false)
   obtain⟨p0,p1⟩:=((uI S3).R.two9 (.int .i64 0) (.bool false)).at2
   exact bodyPost_ret (v:=.tuple #[.agg #[.int .i64 0,.bool false],.int .i64 5]) (by simp[results,Tryz.results77,go_sem,p0,p1]) rfl ⟨rfl,K5⟩
  have em:((m:Int)==(x.kids.length:Int))=true:=beq_iff_eq.2 (by omega)
  have em2:((m:Int) != (x.kids.length:Int))=false:=by rw[bne,em];rfl
  obtain⟨ER,hER⟩:∃ ER,ER=(tyEs E L x.kids).2:=⟨_,rfl⟩
  have HR6:=zH (show R=if ER=0 then ((fb,fs),0) else ((0,false),ER) from by rw[uI HR5,if_pos hml,hER])
  have HE0:=zH (show (tyEs E L (x.kids.drop 0)).2=ER from hER.symm)
  clear HR5 hER hml
  go_wp2_with fail
  clear a0 a1 a2 a3 a4 a5 hsA z0 z1 zf zl em em2
  go_loopg [47] x.kids.length (fun g t wr=>∃ (i:Nat),i≤x.kids.length∧g=x.kids.length - i∧t=.int .i64 (i:Int)∧Hid (Tv w wr B x ka kc [.int .i64 0,.bool false])∧Hid (Box wr tb [.int .i64 fb,.bool fs])∧Hid ((tyEs E L (x.kids.drop i)).2=ER))
  case atStart=>exact⟨0,Nat.zero_le _,rfl,rfl,S3,B3,HE0⟩
  case round =>
   clear S3 B3 HE0
   obtain⟨i,hi,hg,rfl,HC,HT,HE⟩:=hrel
   generalize wr=V0 at *
   by_cases hlt:i<x.kids.length
   ·obtain⟨ao,cap,e0,-,hat⟩:=(uI HC).hk.at
    injection e0 with e0 _ e2
    subst e0 e2
    obtain⟨b1,o1,rfl,hb1,hbw,hc1⟩:=hat (by intro e;rw[e] at hlt;simp at hlt)
    obtain⟨kv,hk,hf,x0,x1,x2,x3,x4,x5⟩:=hc1 i hlt
    obtain⟨ak,ck,rfl,-,-⟩:=hk.at
    have hiI:(i:Int)<(x.kids.length:Int):=by omega
    have hi0:(0:Int)≤(i:Int):=by omega
    have HD:=zH (show x.kids.drop i=x.kids[i]::x.kids.drop (i+1) from List.drop_eq_getElem_cons hlt)
    rw[uI HD,vlE_cons] at HE
    have k2:=qaa V0 (.cells #[.int .i64 x.kids[i].k,.int .u64 x.kids[i].n,.int .i64 x.kids[i].b,.bool x.kids[i].s,.string x.kids[i].nm,.slice ak x.kids[i].kids.length ck] 57)
    have S4:=zH ((uI HC).next k2)
    have T4:=zH ((uI HT).step k2)
    have CV:=uI HI x.kids[i] (List.getElem_mem hlt) B _ rb K E L lp _ ((uI HM).step (uI S4).d) (uI HEV) (uI HLW) (hk.step (k2.mono (uI HC).le)) hf
    unfold ValR at CV
    have CV:=zH CV
    clear hat hc1 hk hf HD k2
    generalize told (tyE E L x.kids[i])=T at *
    generalize x.kids[i]=y at *
    obtain⟨⟨ub,us⟩,er⟩:=T
    dsimp only at CV HE
    go_wp2_with fail
    refine (uI CV).mono ?_
    rintro e V2 ⟨rfl,k1⟩
    have S5:=zH ((uI S4).next k1)
    have T5:=zH ((uI T4).step k1)
    clear CV S4 T4 k1
    by_cases he:er=0
    ·subst he
     have k3:=qaa V2 (.cells #[.int .i64 ub,.bool us] 34)
     have S6:=zH ((uI S5).next k3)
     have T6:=zH ((uI T5).step k3)
     clear k3
     go_wp2_with fail
     go_roundg (x.kids.length - (i+1))
     case measure=>omega
     case rel =>
      have h2:=uI HE
      rw[if_neg (by simp)] at h2
      exact⟨i+1,by omega,rfl,by go_num,S6,T6,zH h2⟩
    ·have ee:(er==0)=false:=zBq he
     have h2:=uI HE
     rw[if_pos he] at h2
     subst h2
     obtain rfl:R=((0,false),er):=by rw[uI HR6,if_neg he]
     obtain⟨z0,z1⟩:=(uI S5).R.at2
     have zf:=(uI S5).R.2.2
     have zl:=(uI S5).R.1
     go_wp2_with fail
     have K5:=qa3 (zY (uI S5).d (show w.heap.size≤w.heap.size+1 by omega) (.int .i64 0) (.bool false)) (Nat.le_refl _) (.cells #[.int .i64 ub,.bool us] 34)
     obtain⟨p0,p1⟩:=(((uI S5).R.two9 (.int .i64 0) (.bool false)).step (qaa _ (.cells #[.int .i64 ub,.bool us] 34))).at2
     exact bodyPost_ret (v:=.tuple #[.agg #[.int .i64 0,.bool false],.int .i64 er]) (by simp[results,Tryz.results77,go_sem,p0,p1]) rfl ⟨rfl,K5⟩
   ·have hiI:¬ (i:Int)<(x.kids.length:Int):=by omega
    have h2:=uI HE
    rw[List.drop_eq_nil_of_le (by omega),tyEs] at h2
    have h2:(0:Int)=ER:=h2
    subst h2
    obtain rfl:R=((fb,fs),0):=by rw[uI HR6,if_pos rfl]
    obtain⟨y0,y1⟩:=(uI HT).at2
    have yl:=(uI HT).1
    obtain⟨z0,z1⟩:=(uI HC).R.at2
    have zf:=(uI HC).R.2.2
    have zl:=(uI HC).R.1
    go_wp2_with fail
    have K5:=zY (uI HC).d (show w.heap.size≤w.heap.size+1 by omega) (.int .i64 fb) (.bool fs)
    obtain⟨p0,p1⟩:=((uI HC).R.two9 (.int .i64 fb) (.bool fs)).at2
    exact bodyPost_ret (v:=.tuple #[.agg #[.int .i64 fb,.bool fs],.int .i64 0]) (by simp[results,Tryz.results77,go_sem,p0,p1]) rfl ⟨rfl,K5⟩
theorem qbd:∀ x:Ex,TvE x→RvX x:=by
 apply Ex.ind
 intro x IH ht
 have hk:=ht
 obtain⟨_,-,-,-,-,-,-,kt⟩:=hk
 refine value9_any x ht ?_
 by_cases h4:x.k=4
 ·exact rtype_call x ht h4 fun y hy=>IH y hy (kt y hy)
 ·exact rtype_no x ht h4 fun y hy=>IH y hy (kt y hy)
theorem rtype_any (x:Ex)(ht:TvE x):RtX x:=by
 have hk:=ht
 obtain⟨_,-,-,-,-,-,-,kt⟩:=hk
 by_cases h4:x.k=4
 ·exact rtype_call x ht h4 fun y hy=>qbd y (kt y hy)
 ·exact rtype_no x ht h4 fun y hy=>qbd y (kt y hy)
theorem own_take9 {W:World}{B e sz k:Nat}{va:Option Addr}{cap len:Nat}{cs:List Value}(h:W.ownsRow B e sz (.slice va len cap) len cs)(hk:k≤len):W.ownsRow B e sz (.slice va k cap) k (cs.take (k*sz)):=by
 refine⟨by rw[List.length_take,h.1];exact Nat.min_eq_left (Nat.mul_le_mul_right _ hk),?_⟩
 rcases h.2 with ⟨e,e0⟩|⟨g,c,cur,e1,e2,e3,e4,e5,e6,e7⟩
 ·injection e with e1 e2 e3
  subst e1 e2 e3
  obtain rfl:k=0:=by omega
  exact .inl ⟨rfl,rfl⟩
 ·injection e1 with e1 _ e8
  subst e1 e8
  refine .inr ⟨g,_,cur,rfl,e2,e3,by omega,e5,e6,?_⟩
  rw[← e7,List.take_take,Nat.min_eq_left (Nat.mul_le_mul_right _ hk)]
theorem flat_take {α:Type}{n:Nat}{c:α→List Value}(hc:∀ x,(c x).length=n)(l:List α)(k:Nat):(l.take k).flatMap c=(l.flatMap c).take (k*n):=by
 induction l generalizing k with
 | nil=>simp
 | cons a l ih =>
  cases k with
  | zero=>simp
  | succ k =>
   rw[List.take_succ_cons,List.flatMap_cons,List.flatMap_cons,ih,List.take_append,hc,Nat.add_mul,Nat.one_mul,Nat.add_sub_cancel,List.take_of_length_le (l:=c a) (by rw[hc];omega)]
def StR (B rb:Nat)(K:Rk)(lp:Nat)(R:Int × Loc)(w:World)(e:Ending)(w':World):Prop:=e=.returned (.int .i64 R.1)∧(∃ sv hv mv,BoxC w' rb (K.cs sv hv mv lp) 67)∧(R.1=0→Rm B w' rb K R.2 lp)∧Wr B rb w w'
theorem Rm.box {B:Nat}{w:World}{rb:Nat}{K:Rk}{L:Loc}{lp:Nat}(h:Rm B w rb K L lp):∃ sv hv mv,BoxC w rb (K.cs sv hv mv lp) 67:=by
 obtain⟨sv,hv,mv,_,_,_,h1,_⟩:=h.has
 exact⟨sv,hv,mv,h1⟩
def RsSm (E:Nev)(res:Int × Bool)(x:Sm):Prop:=∀ (B:Nat) (w:World) (rb:Nat) (K:Rk) (L:Loc) (lp:Nat) (v:Sv),Rm B w rb K L lp→EvP K.p E→LocW L→(K.f.b,K.f.s)=res→SvL B w x v→SmF x→L.fr+4*(szS x:Int)≤1000000→lp+szS x≤1000000 →
 Calls Tryz.prog 44 #[.pointer (some ⟨rb,0,none⟩),.agg (smA x v)] w (StR B rb K lp (ckS E res x lp L) w)
theorem locW_decl {L:Loc}(h:LocW L){b:Int}(s:Bool)(nm:ByteArray)(hb:IsW b):LocW (declC L b s nm).2:=by
 unfold declC
 split
 ·exact h
 ·intro k b' s' e
  have e:(if k=nm then some (b,s,true) else L.m k)=some (b',s',true):=e
  split at e
  ·injection e with e;injection e with e _;rw[← e];exact hb
  ·exact h k b' s' e
theorem qbh {L:Loc}(h:LocW L)(n:Nat):LocW (hideC n L):=by
 intro k b s e
 have e:(if (L.op.drop n).any (fun j=>decide (k=j))=true then some (0,false,false) else L.m k)=some (b,s,true):=e
 split at e
 ·injection e with e;injection e with _ e;injection e with _ e;cases e
 ·exact h k b s e
theorem locW_thc {r:Int × Loc}{f:Loc→Int × Loc}(h:LocW r.2)(k:∀ M,LocW M→LocW (f M).2):LocW (thc r f).2:=by
 unfold thc
 split
 ·exact h
 ·exact k _ h
theorem qbi (E:Nev)(res:Int × Bool):∀ l:List Sm,(∀ y∈l,∀ lp L,LocW L→LocW (ckS E res y lp L).2)→∀ lp L,LocW L→LocW (ckL E res l lp L).2:=by
 intro l
 induction l with
 | nil=>intro _ lp L h;rw[ckL];exact h
 | cons a l ih =>
  intro I lp L h
  rw[ckL]
  exact locW_thc (I a List.mem_cons_self lp L h) fun M hM=>ih (fun y hy=>I y (List.mem_cons_of_mem _ hy)) lp M hM
theorem locW_ckS (E:Nev)(res:Int × Bool):∀ x:Sm,TvS x→∀ lp L,LocW L→LocW (ckS E res x lp L).2:=by
 apply Sm.ind
 intro x I1 I2 I3 I4 ht lp L h
 obtain⟨_,-,-,hb,h1,h2,h3,h4⟩:=ht
 rw[ckS_eq]
 split
 ·rename_i k;exact locW_thc h fun M hM=>locW_decl hM _ _ (hb k)
 split
 ·exact h
 split
 ·exact h
 split
 ·exact h
 split
 ·exact h
 split
 ·rename_i k
  exact locW_thc h fun M hM=>locW_thc (qbh (qbi E res _ (fun y hy lp L=>I3 y hy (h3 (.inl k) y hy) lp L) lp M hM) _) fun N hN=>qbh (qbi E res _ (fun y hy lp L=>I4 y hy (h4 k y hy) lp L) lp N hN) _
 split
 ·rename_i k
  exact locW_thc h fun M hM=>qbh (qbi E res _ (fun y hy lp L=>I3 y hy (h3 (.inr (.inl k)) y hy) lp L) _ M hM) _
 split
 ·rename_i k
  exact locW_thc (qbh (qbi E res _ (fun y hy lp L=>I1 y hy (h1 k y hy) lp L) lp L h) _) fun M hM=>locW_thc hM fun N hN=>locW_thc (qbh (qbi E res _ (fun y hy lp L=>I2 y hy (h2 k y hy) lp L) lp N hN) _) fun O hO=>qbh (qbi E res _ (fun y hy lp L=>I3 y hy (h3 (.inr (.inr (.inl k))) y hy) lp L) _ O hO) _
 split
 ·rename_i k
  exact qbh (qbi E res _ (fun y hy lp L=>I3 y hy (h3 (.inr (.inr (.inr k))) y hy) lp L) lp L h) _
 ·exact h
structure Bx (B:Nat)(w W:World)(rb:Nat)(K:Rk)(lp:Nat)(L M:Loc)(rest:List Sm):Prop where
 rm:Rm B W rb K M lp
 wr:Wr B rb w W
 lw:LocW M
 fr:M.fr+4*(szL rest:Int)≤1000000
 lp:lp+szL rest≤1000000
 le:L.op.length≤M.op.length
theorem stats9_any (E:Nev)(res:Int × Bool)(xs:List Sm)(IH:∀ y∈xs,RsSm E res y)(TV:∀ y∈xs,TvS y)(NM:∀ y∈xs,NmS y)(B:Nat)(w:World)(rb:Nat)(K:Rk)(L:Loc)(lp:Nat)(v:Value)(h:Rm B w rb K L lp)(hE:EvP K.p E)(hL:LocW L)(hres:(K.f.b,K.f.s)=res)(hx:SmL B w v xs)(hfr:L.fr+4*(szL xs:Int)≤1000000)(hlp:lp+szL xs≤1000000) :
  Calls Tryz.prog 20 #[.pointer (some ⟨rb,0,none⟩),v] w (StR B rb K lp (hid L (ckL E res xs lp L)) w):=by
 obtain⟨ao,cap,rfl,hmax,-⟩:=hx.at
 unfold maxLen at hmax
 have HX:=zH hx
 have HI:=zH IH
 have HT:=zH TV
 have HN:=zH NM
 have HEV:=zH hE
 have HRES:=zH hres
 have hB:=h.le
 have hrb:=h.lt
 have c7:∃ va vc,w.cell? ⟨rb,7,none⟩=some (.slice va L.op.length vc):=by
  obtain⟨sv,hv,mv,see,had,mine,h1,h2,-,-,hr,-⟩:=h.has
  obtain⟨va,vc,rfl⟩:=qaj h2
  exact⟨va,vc,by rw[hr.op,List.length_map];exact zC h1 7 _ rfl⟩
 obtain⟨va,vc,c7⟩:=c7
 have S0:=zH (show Bx B w w rb K lp L L (xs.drop 0) from⟨h,Wr.refl _ _ _,hL,hfr,hlp,Nat.le_refl _⟩)
 obtain⟨R,hR⟩:∃ R,R=ckL E res xs lp L:=⟨_,rfl⟩
 rw[← hR]
 have HR:=zH (show ckL E res (xs.drop 0) lp L=R from hR.symm)
 obtain⟨Q,hQ⟩:∃ Q,Q=StR B rb K lp (hid L R) w:=⟨_,rfl⟩
 rw[← hQ]
 have HQ:=zH hQ
 clear hx IH TV NM h hfr hlp hR hQ hE hL hres
 go_enter Tryz.func20,Tryz.ntmps20
 go_wp2_with fail
 go_loopg [16] xs.length (fun g y wr=>∃ (i:Nat) (M:Loc),i≤xs.length∧g=xs.length - i∧y=.int .i64 (i:Int)∧Hid (Bx B w wr rb K lp L M (xs.drop i))∧Hid (ckL E res (xs.drop i) lp M=R))
 case atStart=>exact⟨0,L,Nat.zero_le _,rfl,rfl,S0,HR⟩
 case round =>
  clear S0 HR c7
  obtain⟨i,M,hi,hg,rfl,HC,HE⟩:=hrel
  generalize wr=W0 at *
  by_cases hlt:i<xs.length
  ·have hxw:=(uI HX).step (uI HC).wr.below
   obtain⟨b1,o1,sv,rfl,hbw,hra,hsv,hf⟩:=hxw.read i hlt
   have HRA:=zH hra
   have ONE:=zH hsv.one
   have hiI:(i:Int)<(xs.length:Int):=by omega
   have hi0:(0:Int)≤(i:Int):=by omega
   have HD:=zH (show xs.drop i=xs[i]::xs.drop (i+1) from List.drop_eq_getElem_cons hlt)
   have hAs:=zH (qak xs[i] sv)
   have hal:=qaa W0 (.cells (smA xs[i] sv) 103)
   have hle:=(uI HC).rm.le
   have hc:=uI HC
   rw[uI HD] at hc HE
   have hfr:=hc.fr
   have hlp:=hc.lp
   rw[szL] at hfr hlp
   rw[ckL] at HE
   have GD:=zH (ckS_gd E res xs[i] (uI HN _ (List.getElem_mem hlt)) lp M)
   have LW:=zH (locW_ckS E res xs[i] (uI HT _ (List.getElem_mem hlt)) lp M hc.lw)
   have CA:=(uI HI _ (List.getElem_mem hlt)) B (W0.alloc (.cells (smA xs[i] sv) 103)) rb K M lp sv (hc.rm.step hal) (uI HEV) hc.lw (uI HRES) (hsv.step (hal.mono hle)) hf (by omega) (by omega)
   unfold StR at CA
   have CA:=zH CA
   have HB:=zH (show (W0.alloc (.cells (smA xs[i] sv) 103)).heap[W0.heap.size]?=some (.cells (smA xs[i] sv) 103 (0,0)) by show (W0.heap.push _)[W0.heap.size]?=_;simp)
   have WK:=zH (hc.wr.trans (Wr.of (rb:=rb) hal hle))
   have NUM:=zH (show M.fr+4*((szS xs[i]+szL (xs.drop (i+1)):Nat):Int)≤1000000∧lp+(szS xs[i]+szL (xs.drop (i+1)))≤1000000∧L.op.length≤M.op.length from⟨hfr,hlp,hc.le⟩)
   clear hra hxw hsv hf HD hc hfr hlp HC hal
   generalize xs[i]=y at *
   generalize smA y sv=A at *
   generalize ckS E res y lp M=T at *
   obtain⟨er,N⟩:=T
   go_wp2_with (first|(refine wpList_load_mid rfl 103 (.tmp 18) rfl b1 (o1+i*21) rfl A.toList _ (uI HRA) Tryz.underlying103 rfl (by rw[Array.length_toList,uI hAs];exact Tryz.sizeStat) ?_)|(refine wpList_store_row rfl 103 (.tmp 7) (.tmp 19) rfl W0.heap.size A rfl rfl _ _ (heapNew0 _ _) (by rw[uI hAs];exact Tryz.sizeStat) (by rw[uI hAs];rfl) (uI ONE) ?_;rw[qbp])|(refine wpList_load_row rfl 103 (.tmp 7) rfl W0.heap.size rfl _ A _ _ (uI HB) Tryz.underlying103 rfl (by rw[uI hAs];exact Tryz.sizeStat) ?_))
   refine (uI CA).mono ?_
   rintro e w1 ⟨rfl,hbx,hrm,k1⟩
   have SC:=zH (show er=0→Rm B w1 rb K N lp from hrm)
   have HBX:=zH hbx
   have WK1:=zH ((uI WK).trans k1)
   have GN:=zH (show Gd (szS y) M N from uI GD)
   clear CA hrm hbx k1 GD WK HRA ONE HB hAs
   by_cases her:er=0
   ·subst her
    go_wp2_with fail
    go_roundg (xs.length - (i+1))
    case measure=>omega
    case rel =>
     obtain⟨q1,q2,q4⟩:=uI NUM
     obtain⟨g1,g2,g3,g4⟩:=uI GN
     exact⟨i+1,N,by omega,rfl,by go_num,zH ⟨uI SC (by simp),uI WK1,uI LW,by omega,by omega,by omega⟩,zH (by have:=uI HE;simpa [thc] using this)⟩
   ·have hR:R=(er,N):=by have:=uI HE;unfold thc at this;rw[if_pos (by exact her)] at this;exact this.symm
    subst hR
    have ee:(er==0)=false:=zBq her
    go_wp2_with fail
    rw[uI HQ]
    exact⟨rfl,uI HBX,fun q=>absurd q her,uI WK1⟩
  ·have hiI:¬ (i:Int)<(xs.length:Int):=by omega
   have hil:xs.drop i=[]:=List.drop_eq_nil_of_le (by omega)
   rw[hil] at HC HE
   clear hil
   have hR:R=(0,M):=by have:=uI HE;rw[ckL] at this;exact this.symm
   subst hR
   obtain⟨sv,hv,mv,see,had,mine,h1,h2,h3,h4,hr,hl1,hl2,hl3⟩:=(uI HC).rm.has
   obtain⟨ua,uc,rfl⟩:=qaj h2
   have hle:=(uI HC).le
   rw[hr.op,List.length_map] at hle
   have c7:=zC h1 7 _ rfl
   have hrb0:=h1.lt
   have hsf:=h1.box.2.2
   have hcap:see.length≤uc∧uc≤9223372036854775807:=by
    obtain⟨-,_,_,q0,q1,q2,-⟩:=Lies.owned h2
    injection q0 with _ _ q0
    subst q0
    exact⟨q1,q2⟩
   have H1:=zH h1
   have H2:=zH h2
   have H3:=zH h3
   have H4:=zH h4
   have HRL:=zH hr
   have HLL:=zH (And.intro hl1 (And.intro hl2 hl3))
   obtain⟨hc1,hc2⟩:=hcap
   clear h1 h2 h3 h4 hr hl1 hl2 hl3
   go_wp2_with fail
   rw[uI HQ]
   have hel:L.op.length=(see.take L.op.length).length:=by rw[List.length_take];omega
   have nr:∀ {e sz n:Nat} {v:Value} {cs:List Value},W0.ownsRow B e sz v n cs→67≠e→∀ q,v.ownBlock=some q→q≠rb:=fun hq he k hk e=>by
    obtain⟨-,cur,fr,h2⟩:=qbo hq k hk
    rw[e,(uI H1).1] at h2
    injection h2 with h2
    injection h2 with _ h2 _
    exact he h2
   have hbx:BoxC (W0.setCell ⟨rb,7,none⟩ (.slice ua L.op.length uc)) rb (K.cs (.slice ua L.op.length uc) hv mv lp) 67:=by
    have:=(uI H1).set (j:=7) (u:=.slice ua L.op.length uc)
    simpa [Rk.cs] using this
   have ht:=own_take9 (uI H2) hle
   have ho:(W0.setCell ⟨rb,7,none⟩ (.slice ua L.op.length uc)).ownsRow B 138 5 (.slice ua L.op.length uc) (see.take L.op.length).length ((see.take L.op.length).flatMap seC):=by
    rw[← hel,flat_take (n:=5) (c:=seC) (fun _=>rfl)]
    exact qbc ht (nr ht (by decide))
   have hB9:=(uI HC).rm.hB
   exact⟨rfl,⟨_,_,_,hbx⟩,fun _=>⟨⟨_,_,_,see.take L.op.length,had,mine,hbx,ho,qbc (uI H3) (nr (uI H3) (by decide)),qbc (uI H4) (nr (uI H4) (by decide)),(uI HRL).zX L.op.length,(uI HLL).1,by rw[List.length_take];have:=(uI HLL).2.1;omega,(uI HLL).2.2⟩,(uI HC).rm.pg.step (Below.setCell (Below.refl _ _) hB9 _),hB9⟩,(uI HC).wr.trans (Wr.setCell _ _ hB9)⟩
theorem own_room {W:World}{rb B e sz n:Nat}{cs:Array Value}{v:Value}{xs:List Value}(h:BoxC W rb cs 67)(ho:W.ownsRow B e sz v n xs)(he:67≠e):∀ q,v.ownBlock=some q→q≠rb:=fun k hk e2=>by
 obtain⟨-,cur,fr,h2⟩:=qbo ho k hk
 rw[e2,h.1] at h2
 injection h2 with h2
 injection h2 with _ h2 _
 exact he h2
theorem Rm.loop {B:Nat}{w:World}{rb:Nat}{K:Rk}{L:Loc}{lp:Nat}(h:Rm B w rb K L lp)(q:Nat)(u:Value)(hu:u=.int .i64 (q:Int)):Rm B (w.setCell ⟨rb,10,none⟩ u) rb K L q:=by
 subst hu
 obtain⟨sv,hv,mv,see,had,mine,h1,h2,h3,h4,h5⟩:=h.has
 refine⟨⟨sv,hv,mv,see,had,mine,?_,qbc h2 (own_room h1 h2 (by decide)),qbc h3 (own_room h1 h3 (by decide)),qbc h4 (own_room h1 h4 (by decide)),h5⟩,h.pg.step (Below.setCell (Below.refl _ _) h.hB _),h.hB⟩
 have:=h1.set (j:=10) (u:=.int .i64 (q:Int))
 simpa [Rk.cs] using this
theorem again9_any (E:Nev)(res:Int × Bool)(xs:List Sm)(IH:∀ y∈xs,RsSm E res y)(TV:∀ y∈xs,TvS y)(NM:∀ y∈xs,NmS y)(B:Nat)(w:World)(rb:Nat)(K:Rk)(L:Loc)(lp:Nat)(v:Value)(h:Rm B w rb K L lp)(hE:EvP K.p E)(hL:LocW L)(hres:(K.f.b,K.f.s)=res)(hx:SmL B w v xs)(hfr:L.fr+4*(szL xs:Int)≤1000000)(hlp:lp+1+szL xs≤1000000) :
  Calls Tryz.prog 78 #[.pointer (some ⟨rb,0,none⟩),v] w (StR B rb K lp (hid L (ckL E res xs (lp+1) L)) w):=by
 have hrb:=h.lt
 have c10:w.cell? ⟨rb,10,none⟩=some (.int .i64 (lp:Int)):=by
  obtain⟨sv,hv,mv,h1⟩:=h.box
  exact zC h1 10 _ rfl
 have hsf:∀ j,w.frozen? ⟨rb,j,none⟩=false:=by
  obtain⟨sv,hv,mv,h1⟩:=h.box
  exact h1.box.2.2
 have W1:=Wr.setCell (rb:=rb) w (j:=10) (.int .i64 ((lp:Int)+1)) h.hB
 have CA:=stats9_any E res xs IH TV NM B (w.setCell ⟨rb,10,none⟩ (.int .i64 ((lp:Int)+1))) rb K L (lp+1) v (h.loop (lp+1) _ (by simp)) hE hL hres (hx.step W1.below) hfr hlp
 have hB:=h.hB
 obtain⟨R,hR⟩:∃ R,R=hid L (ckL E res xs (lp+1) L):=⟨_,rfl⟩
 rw[← hR] at CA ⊢
 obtain⟨Q,hQ⟩:∃ Q,Q=StR B rb K lp R w:=⟨_,rfl⟩
 rw[← hQ]
 have HQ:=zH hQ
 unfold StR at CA
 have CA:=zH CA
 have HW1:=zH W1
 clear hQ hR h hE hL hres hx IH TV NM W1
 obtain⟨er,N⟩:=R
 dsimp only at CA
 go_enter Tryz.func78,Tryz.ntmps78
 go_wp2_with fail
 refine (uI CA).mono ?_
 rintro e w2 ⟨rfl,⟨sv,hv,mv,h1⟩,hrm,k1⟩
 have H1:=zH h1
 have HRM:=zH hrm
 have K1:=zH ((uI HW1).trans k1)
 have c10':w2.cell? ⟨rb,10,none⟩=some (.int .i64 ((lp:Int)+1)):=by
  have:=zC h1 10 (.int .i64 ((lp+1:Nat):Int)) rfl
  simpa using this
 have hrb2:=h1.lt
 have hsf2:=h1.box.2.2
 clear CA HW1 h1 hrm k1 c10 hsf
 go_wp2_with fail
 rw[uI HQ]
 refine⟨rfl,⟨sv,hv,mv,?_⟩,fun he=>(uI HRM he).loop lp _ rfl,(uI K1).trans (Wr.setCell _ _ hB)⟩
 have:=(uI H1).set (j:=10) (u:=.int .i64 (lp:Int))
 simpa [Rk.cs] using this
structure Sx (B:Nat)(w W:World)(rb:Nat)(K:Rk)(L:Loc)(lp:Nat)(x:Sm)(v:Sv):Prop where
 rm:Rm B W rb K L lp
 wr:Wr B rb w W
 bx:SmB W w.heap.size x v
 lt:rb<w.heap.size
 sv:SvL B W x v
 ok:SmF x
section
variable {B:Nat} {w W W':World} {rb:Nat} {K:Rk} {L L':Loc} {lp lp':Nat} {x:Sm} {v:Sv}
theorem Sx.begin (h:Rm B w rb K L lp)(hs:SvL B w x v)(hf:SmF x):Sx B w (w.alloc (.cells (smA x v) 103)) rb K L lp x v:=by
 have hal:=qaa w (.cells (smA x v) 103)
 exact⟨h.step hal,Wr.of hal h.le,SmB.new _ _ _,h.lt,hs.step (hal.mono h.le),hf⟩
theorem Sx.next (h:Sx B w W rb K L lp x v)(q:Wr B rb W W')(s:Rm B W' rb K L' lp'):Sx B w W' rb K L' lp' x v:=by
 have hl:=h.lt
 exact⟨s,h.wr.trans q,⟨q.block _ _ h.bx.heap (by omega) (fun cs fr e=>by injection e with _ e _;exact absurd e (by decide)) (fun cs fr e=>by injection e with _ e _;exact absurd e (by decide)) (fun cs fr e=>by injection e with _ e _;exact absurd e (by decide))⟩,hl,h.sv.step q.below,h.ok⟩
theorem Sx.step (h:Sx B w W rb K L lp x v)(q:Below W.heap.size W W'):Sx B w W' rb K L lp x v:=h.next (Wr.of q h.rm.le) (h.rm.step q)
theorem Sx.done (h:Sx B w W rb K L lp x v)(er:Int)(R:Int × Loc)(hR:R=(er,L)):StR B rb K lp R w (.returned (.int .i64 er)) W:=by
 subst hR
 exact⟨rfl,h.rm.box,fun _=>h.rm,h.wr⟩
end
end Go.Proofs.YtjpnnmkefaodoaaGreat
