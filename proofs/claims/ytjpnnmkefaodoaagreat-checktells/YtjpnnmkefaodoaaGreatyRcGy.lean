/-
  RcG.
-/
import Derived.Test.YtjpnnmkefaodoaaGreatyRcEy
set_option maxHeartbeats 8000000
set_option maxRecDepth 100000
namespace Go.Proofs.YtjpnnmkefaodoaaGreat
open Go.RowKit Go.Maps Go.Great
set_option linter.unusedSimpArgs false
set_option linter.unusedVariables false
theorem Tv.low {w W W':World}{B:Nat}{x:Ex}{ka:Option Addr}{kc:Nat}{r:List Value}(h:Tv w W B x ka kc r)(hB:B≤w.heap.size)(q:Below (w.heap.size+2) W W'):Tv w W' B x ka kc r:=by
 refine⟨h.d.trans (q.mono (by omega)),?_,?_,h.hk.step (q.mono (by omega)),Nat.le_trans h.le q.size⟩
 ·refine⟨Nat.lt_of_lt_of_le h.A.1 q.size,fun j u hu=>?_,fun j=>?_⟩
  ·rw[World.cell?_of_block (a:=⟨w.heap.size,j,none⟩) (q.block _ (by show w.heap.size<_;omega))];exact h.A.2.1 j u hu
  ·rw[World.frozen?_of_block (a:=⟨w.heap.size,j,none⟩) (q.block _ (by show w.heap.size<_;omega))];exact h.A.2.2 j
 ·refine⟨Nat.lt_of_lt_of_le h.R.1 q.size,fun j u hu=>?_,fun j=>?_⟩
  ·rw[World.cell?_of_block (a:=⟨w.heap.size+1,j,none⟩) (q.block _ (by show w.heap.size+1<_;omega))];exact h.R.2.1 j u hu
  ·rw[World.frozen?_of_block (a:=⟨w.heap.size+1,j,none⟩) (q.block _ (by show w.heap.size+1<_;omega))];exact h.R.2.2 j
theorem mt_read {w:World}{v:Value}{l:List (Int × Bool)}(h:Lies w 2 v l.length (l.flatMap mtC))(i:Nat)(hi:i<l.length):∃ b off cap,v=.slice (some ⟨b,off,none⟩) l.length cap∧b<w.heap.size ∧
  w.cell? ⟨b,off+i*2,none⟩=some (.int .i64 l[i].1)∧w.cell? ⟨b,off+i*2+1,none⟩=some (.bool l[i].2):=by
 obtain⟨h1,ao,cap,rfl,h3,h4,h6,h5⟩:=h
 obtain⟨b,off,rfl,hb,hc⟩:=h5 (by omega)
 have key:∀ j u,(mtC l[i])[j]?=some u→w.cell? ⟨b,off+i*2+j,none⟩=some u:=fun j u hu=>by
  have hj:j<2:=(List.getElem?_eq_some_iff.1 hu).1
  have hlt:i*2+j<l.length*2:=by omega
  rw[Nat.add_assoc,hc (i*2+j) hlt,flat_read (n:=2) (c:=mtC) (fun _=>rfl) l i hi j hj]
  exact hu
 exact⟨b,off,cap,rfl,hb,key 0 _ rfl,key 1 _ rfl⟩
theorem mt_two {w:World}{B rb0 ro0 rc0:Nat}{t u:Int × Bool}(O:w.ownsRow B 34 2 (.slice (some ⟨rb0,ro0,none⟩) 2 rc0) 2 ([t,u].flatMap mtC)):w.cell? ⟨rb0,ro0,none⟩=some (.int .i64 t.1)∧w.cell? ⟨rb0,ro0+1,none⟩=some (.bool t.2)∧w.cell? ⟨rb0,ro0+2,none⟩=some (.int .i64 u.1)∧w.cell? ⟨rb0,ro0+2+1,none⟩=some (.bool u.2):=by
 have h:Lies w 2 (.slice (some ⟨rb0,ro0,none⟩) 2 rc0) [t,u].length ([t,u].flatMap mtC):=Lies.owned O
 obtain⟨b,o,c,e0,-,x0,x1⟩:=mt_read h 0 (by exact Nat.zero_lt_two)
 obtain⟨b',o',c',e1,-,y0,y1⟩:=mt_read h 1 (by exact Nat.one_lt_two)
 injection e0 with e0 _ _
 injection e0 with e0
 injection e0 with q1 q2
 injection e1 with e1 _ _
 injection e1 with e1
 injection e1 with q3 q4
 subst q1 q2 q3 q4
 simp only[Nat.zero_mul,Nat.one_mul,Nat.add_zero,List.getElem_cons_zero,List.getElem_cons_succ] at x0 x1 y0 y1
 exact⟨x0,x1,y0,y1⟩
def ktG (E:Nev)(L:Loc)(acc:List (Int × Bool))(l:List Ex):List (Int × Bool) × Int:=if (tyEs E L l).2≠0 then ([],(tyEs E L l).2) else (acc++(tyEs E L l).1,0)
theorem ktG_cons (E:Nev)(L:Loc)(acc:List (Int × Bool))(y:Ex)(l:List Ex):ktG E L acc (y::l)=if (told (tyE E L y)).2≠0 then ([],(told (tyE E L y)).2) else ktG E L (acc++[(told (tyE E L y)).1]) l:=by
 unfold ktG
 rw[tyEs]
 by_cases h1:(told (tyE E L y)).2≠0
 ·rw[if_pos h1,if_pos (by exact h1),if_pos h1]
 ·rw[if_neg h1,if_neg h1]
  by_cases h2:(tyEs E L l).2≠0
  ·rw[if_pos h2,if_pos (by exact h2),if_pos h2]
  ·rw[if_neg h2,if_neg (by simp),if_neg h2]
   simp
theorem ktG_nil (E:Nev)(L:Loc)(acc:List (Int × Bool)):ktG E L acc []=(acc,0):=by
 unfold ktG
 rw[tyEs,if_neg (by simp)]
 simp
theorem tyE_no (E:Nev)(L:Loc)(x:Ex)(h4:x.k≠4):tyE E L x=if (ktG E L [] x.kids).2≠0 then ((0,false),(ktG E L [] x.kids).2) else if x.k=2∨x.k=3 then askC E L x.nm (decide (x.k=3)) else (tyO x.k x.b x.s (ktG E L [] x.kids).1,0):=by
 obtain⟨k,n,b,s,nm,kids⟩:=x
 have h4:¬ k=4:=h4
 rw[tyE,if_neg h4]
 show _=if (ktG E L [] kids).2≠0 then ((0,false),(ktG E L [] kids).2) else if k=2∨k=3 then askC E L nm (decide (k=3)) else (tyO k b s (ktG E L [] kids).1,0)
 unfold ktG
 by_cases h:(tyEs E L kids).2=0
 ·simp[h]
 ·simp[h]
theorem ktG_len (E:Nev)(L:Loc)(l:List Ex)(h:(ktG E L [] l).2=0):(ktG E L [] l).1.length=l.length:=by
 unfold ktG at h ⊢
 by_cases h1:(tyEs E L l).2≠0
 ·rw[if_pos h1] at h;exact absurd h h1
 ·rw[if_neg h1]
  simpa using qbk E L l (by simpa using h1)
theorem rtype_no (x:Ex)(ht:TvE x)(h4:x.k≠4)(IH:∀ y∈x.kids,RvX y):RtX x:=by
 intro B w rb K E L lp kv h hE hL hx hf
 obtain⟨ka,kc,rfl⟩:∃ ao cap,kv=.slice ao x.kids.length cap:=by obtain⟨ao,cap,e,-⟩:=hx.at;exact⟨ao,cap,e⟩
 obtain⟨_,lo,hi,kl,kh,-,-,-⟩:=ht
 have hk8:x.kids.length≤8:=by unfold kidHi at kh;(repeat' split at kh);all_goals omega
 have S0:=zH (Tv.begin #[.int .i64 0,.bool false] 57 34 hx h.le)
 obtain⟨R,hR⟩:∃ R,R=tyE E L x:=⟨_,rfl⟩
 have hP:ExpR E L x w=fun e w'=>e=.returned (.tuple #[.agg #[.int .i64 R.1.1,.bool R.1.2],.int .i64 R.2])∧Below w.heap.size w w':=by rw[hR];rfl
 rw[hP]
 clear hP
 obtain⟨KT,hKT⟩:∃ KT,KT=ktG E L [] x.kids:=⟨_,rfl⟩
 have HR:=zH (show R=if KT.2≠0 then ((0,false),KT.2) else if x.k=2∨x.k=3 then askC E L x.nm (decide (x.k=3)) else (tyO x.k x.b x.s KT.1,0) from by rw[hR,tyE_no E L x h4,hKT])
 have HLEN:=zH (show KT.2=0→KT.1.length=x.kids.length from by rw[hKT];exact ktG_len E L x.kids)
 have HE0:=zH (show ktG E L [] (x.kids.drop 0)=KT from hKT.symm)
 have HB:=zH h.le
 have HM:=zH h
 have HEV:=zH hE
 have HLW:=zH hL
 have HI:=zH IH
 have HK:=zH (show (1≤x.k∧x.k≤26)∧kidLo x.k≤x.kids.length∧x.kids.length≤kidHi x.k from⟨⟨lo,hi⟩,kl,kh⟩)
 have H4:=zH h4
 have e4:(x.k==4)=false:=zBq h4
 obtain⟨a0,a1,a2,a3,a4,a5⟩:=(uI S0).A.six8
 have hsA:=(uI S0).A.1
 have HS:=zH (show ((w.alloc (.cells #[.int .i64 x.k,.int .u64 x.n,.int .i64 x.b,.bool x.s,.string x.nm,.slice ka x.kids.length kc] 57)).alloc (.cells #[.int .i64 0,.bool false] 34)).heap.size=w.heap.size+2 by simp)
 clear h hE hL hx hf IH hR hKT lo hi kl kh h4
 generalize hW0:(w.alloc (.cells #[.int .i64 x.k,.int .u64 x.n,.int .i64 x.b,.bool x.s,.string x.nm,.slice ka x.kids.length kc] 57)).alloc (.cells #[.int .i64 0,.bool false] 34)=W0 at *
 obtain⟨it,hj0,hy0,hy1,hy2⟩:=qbb infoTy9
 go_enter Tryz.func77,Tryz.ntmps77
 go_wp2_with fail
 clear a0 a1 a2 a3 a4 a5 hsA hW0
 go_loopg [13,66] x.kids.length (fun g v t wr=>∃ (i:Nat) (acc:List (Int × Bool)),i≤x.kids.length∧g=x.kids.length - i∧t=.int .i64 (i:Int)∧acc.length=i∧Hid (Tv w wr B x ka kc [.int .i64 0,.bool false])∧Hid (wr.ownsRow (w.heap.size+2) 34 2 v acc.length (acc.flatMap mtC))∧Hid (ktG E L acc (x.kids.drop i)=KT))
 case atStart=>exact⟨0,[],Nat.zero_le _,rfl,rfl,rfl,S0,zH (World.ownsRow_nil _ _ _ _),HE0⟩
 case round =>
  clear S0 HE0
  obtain⟨i,acc,hi,hg,rfl,hacc,HC,HO,HE⟩:=hrel
  obtain⟨oa,oc,rfl⟩:=qaj (uI HO)
  generalize wr=V0 at *
  have HA:=zH hacc
  clear hacc
  by_cases hlt:i<x.kids.length
  ·obtain⟨ao,cap,e0,-,hat⟩:=(uI HC).hk.at
   injection e0 with e0 _ e2
   subst e0 e2
   obtain⟨b1,o1,rfl,hb1,hbw,hc1⟩:=hat (by intro e;rw[e] at hlt;simp at hlt)
   obtain⟨kv,hk,hf,x0,x1,x2,x3,x4,x5⟩:=hc1 i hlt
   obtain⟨ak,ck,rfl,-,-⟩:=hk.at
   have hiI:(i:Int)<(x.kids.length:Int):=by omega
   have hi0:(0:Int)≤(i:Int):=by omega
   have HD:=zH (show x.kids.drop i=x.kids[i]::x.kids.drop (i+1) from List.drop_eq_getElem_cons hlt)
   rw[uI HD,ktG_cons] at HE
   have k2:=qaa V0 (.cells #[.int .i64 x.kids[i].k,.int .u64 x.kids[i].n,.int .i64 x.kids[i].b,.bool x.kids[i].s,.string x.kids[i].nm,.slice ak x.kids[i].kids.length ck] 57)
   have S1:=zH ((uI HC).next k2)
   have CV:=uI HI x.kids[i] (List.getElem_mem hlt) B _ rb K E L lp _ ((uI HM).step (uI S1).d) (uI HEV) (uI HLW) (hk.step (k2.mono (uI HC).le)) hf
   unfold ValR at CV
   have CV:=zH CV
   have O1:=zH (qay (uI HO) k2)
   clear hat hc1 hk hf HD k2
   generalize told (tyE E L x.kids[i])=T at *
   generalize x.kids[i]=y at *
   obtain⟨⟨tb,ts⟩,er⟩:=T
   dsimp only at CV HE
   go_wp2_with fail
   refine (uI CV).mono ?_
   rintro e V1 ⟨rfl,k1⟩
   have S2:=zH ((uI S1).next k1)
   have O2:=zH (qay (uI O1) k1)
   clear CV S1 O1 k1
   have B2:=zH (Box.new V1 #[.int .i64 tb,.bool ts] 34)
   by_cases he:er=0
   ·subst he
    have k3:=qaa V1 (.cells #[.int .i64 tb,.bool ts] 34)
    have k4:=bT k3 (qaa (V1.alloc (.cells #[.int .i64 tb,.bool ts] 34)) (.cells #[.int .i64 tb,.bool ts] 34))
    have B3:=Box.new (V1.alloc (.cells #[.int .i64 tb,.bool ts] 34)) #[.int .i64 tb,.bool ts] 34
    rw[World.heap_alloc_size] at B3
    have HB3:=zH B3
    have S4:=zH ((uI S2).next k4)
    have O4:=zH (qay (uI O2) k4)
    have HL:=zH (show w.heap.size+2≤((V1.alloc (.cells #[.int .i64 tb,.bool ts] 34)).alloc (.cells #[.int .i64 tb,.bool ts] 34)).heap.size from by have:=(uI S2).R.1;have:=k4.size;omega)
    clear k3 k4 B3
    go_wp2_with (at_builtin;refine qav rfl (.tmp 80) (.tmp 82) 65 rfl (w.heap.size+2) 34 it (.agg #[.int .i64 0,.bool false]) 2 16 Tryz.underlying65 hj0 hy0 hy1 hy2 rfl (by decide) _ _ _ rfl (uI O4) _ 1 [.int .i64 tb,.bool ts] rfl (lies_one2 (uI HB3)) (by intro u hu;simp only[List.mem_cons,List.not_mem_nil,or_false] at hu;rcases hu with rfl|rfl <;> rfl) (by have:=uI HA;unfold maxLen;omega) (by have:=uI HA;omega) (uI HL) ?_;intro v5 w5 o5 g5;have O5:=zH (show w5.ownsRow (w.heap.size+2) 34 2 v5 (acc++[(tb,ts)]).length ((acc++[(tb,ts)]).flatMap mtC) from by simpa [mtC] using o5);have S5:=zH ((uI S4).low (uI HB) (grown_below3 (Below.refl _ _) (uI HL) (fun b hb=>((uI O4).lt b hb).1) g5));clear o5 g5)
    go_roundg (x.kids.length - (i+1))
    case measure=>omega
    case rel =>
     have h2:=uI HE
     rw[if_neg (by simp)] at h2
     exact⟨i+1,acc++[(tb,ts)],by omega,rfl,by go_num,by have:=uI HA;simp;omega,S5,O5,zH h2⟩
   ·have ee:(er==0)=false:=zBq he
    have h2:=uI HE
    rw[if_pos he] at h2
    subst h2
    obtain rfl:R=((0,false),er):=by rw[uI HR];exact if_pos he
    obtain⟨z0,z1⟩:=(uI S2).R.at2
    have zf:=(uI S2).R.2.2
    have zl:=(uI S2).R.1
    go_wp2_with fail
    have K5:=qa3 (zY (uI S2).d (show w.heap.size≤w.heap.size+1 by omega) (.int .i64 0) (.bool false)) (Nat.le_refl _) (.cells #[.int .i64 tb,.bool ts] 34)
    obtain⟨p0,p1⟩:=(((uI S2).R.two9 (.int .i64 0) (.bool false)).step (qaa _ (.cells #[.int .i64 tb,.bool ts] 34))).at2
    exact bodyPost_ret (v:=.tuple #[.agg #[.int .i64 0,.bool false],.int .i64 er]) (by simp[results,Tryz.results77,go_sem,p0,p1]) rfl ⟨rfl,K5⟩
  ·have hiI:¬ (i:Int)<(x.kids.length:Int):=by omega
   have h2:=uI HE
   rw[List.drop_eq_nil_of_le (by omega),ktG_nil] at h2
   subst h2
   have HL2:=zH (show acc.length=x.kids.length from uI HLEN rfl)
   have HR2:=zH (show R=if x.k=2∨x.k=3 then askC E L x.nm (decide (x.k=3)) else (tyO x.k x.b x.s acc,0) from by rw[uI HR];exact if_neg (by simp))
   have S2:=HC
   have O2:=HO
   clear HE HLEN HR HC HO
   obtain⟨a0,a1,a2,a3,a4,a5⟩:=(uI S2).A.six8
   have hsA:=(uI S2).A.1
   obtain⟨z0,z1⟩:=(uI S2).R.at2
   have zf:=(uI S2).R.2.2
   have zl:=(uI S2).R.1
   have ⟨⟨klo,khi⟩,kkl,kkh⟩:=uI HK
   by_cases k15:x.k=1∨x.k=5
   ·obtain rfl:R=((x.b,x.s),0):=by
     rw[uI HR2,if_neg (by omega)]
     have hl:=uI HL2
     rcases k15 with k1|k5
     ·unfold kidHi at kkh
      rw[if_pos (.inl k1)] at kkh
      match acc,hl with
      | [],_=>rfl
      | a::r,hl=>simp at hl;omega
     ·unfold kidHi kidLo at *
      rw[if_neg (by omega),if_pos (by omega)] at kkl
      rw[if_neg (by omega),if_neg (by omega),if_pos (by omega)] at kkh
      match acc,hl with
      | [],hl=>simp at hl;omega
      | [t],_=>show ((if x.k=5 then (x.b,x.s) else if x.k=6∨x.k=7 then (pb t.1,ps t.1 t.2) else (16,true)),(0:Int))=_;rw[if_pos k5]
      | a::b::r,hl=>simp at hl;omega
    have HQ:=zH (And.intro klo (And.intro khi (And.intro kkl kkh)))
    clear klo khi kkl kkh
    rcases k15 with k1|k5
    ·have e1:(x.k==1)=true:=beq_iff_eq.2 k1
     have HK1:=zH k1
     clear k1
     go_wp2_with fail
     have K5:=zY (uI S2).d (show w.heap.size≤w.heap.size+1 by omega) (.int .i64 x.b) (.bool x.s)
     obtain⟨p0,p1⟩:=((uI S2).R.two9 (.int .i64 x.b) (.bool x.s)).at2
     exact bodyPost_ret (v:=.tuple #[.agg #[.int .i64 x.b,.bool x.s],.int .i64 0]) (by simp[results,Tryz.results77,go_sem,p0,p1]) rfl ⟨rfl,K5⟩
    ·have e1:(x.k==1)=false:=zBq (by omega)
     have e5:(x.k==5)=true:=beq_iff_eq.2 k5
     have HK1:=zH k5
     clear k5
     go_wp2_with fail
     have K5:=zY (uI S2).d (show w.heap.size≤w.heap.size+1 by omega) (.int .i64 x.b) (.bool x.s)
     obtain⟨p0,p1⟩:=((uI S2).R.two9 (.int .i64 x.b) (.bool x.s)).at2
     exact bodyPost_ret (v:=.tuple #[.agg #[.int .i64 x.b,.bool x.s],.int .i64 0]) (by simp[results,Tryz.results77,go_sem,p0,p1]) rfl ⟨rfl,K5⟩
   have e1:(x.k==1)=false:=zBq (by omega)
   have e5:(x.k==5)=false:=zBq (by omega)
   by_cases k23:x.k=2∨x.k=3
   ·have CF:=zH (find_any E B V0 rb K L lp ((uI HM).step (uI S2).d) (uI HEV).v x.nm)
    have K23:=zH k23
    clear klo khi kkl kkh k15
    rcases k23 with k2|k3
    ·have e2:(x.k==2)=true:=beq_iff_eq.2 k2
     have e3:(x.k==3)=false:=zBq (by omega)
     have KQ:=zH (show ¬ x.k=3 by omega)
     clear k2
     go_wp2_with fail
     refine (uI CF).mono ?_
     rintro e V1 ⟨nm',fb,fs,sz,gl,rfl,hfy,k1⟩
     have S3:=zH ((uI S2).next k1)
     have HFY:=zH hfy
     clear hfy k1 CF z0 z1 zf zl a0 a1 a2 a3 a4 a5 hsA
     obtain⟨z0,z1⟩:=(uI S3).R.at2
     have zf:=(uI S3).R.2.2
     have zl:=(uI S3).R.1
     obtain⟨a0,a1,a2,a3,a4,a5⟩:=(uI S3).A.six8
     have hsA:=(uI S3).A.1
     rcases hv:varC E L x.nm with _|⟨vb,vs,va⟩
     ·obtain rfl:R=((0,false),7):=by rw[uI HR2,if_pos (uI K23)];unfold askC;rw[hv]
      have HV:=zH hv
      clear hv
      simp only[Option.isSome_none]
      go_wp2_with fail
      have K5:=qa3 (zY (uI S3).d (show w.heap.size≤w.heap.size+1 by omega) (.int .i64 0) (.bool false)) (Nat.le_refl _) (.cells #[.string nm',.int .i64 fb,.bool fs,.int .i64 sz,.bool gl] 138)
      obtain⟨p0,p1⟩:=(((uI S3).R.two9 (.int .i64 0) (.bool false)).step (qaa _ (.cells #[.string nm',.int .i64 fb,.bool fs,.int .i64 sz,.bool gl] 138))).at2
      exact bodyPost_ret (v:=.tuple #[.agg #[.int .i64 0,.bool false],.int .i64 7]) (by simp[results,Tryz.results77,go_sem,p0,p1]) rfl ⟨rfl,K5⟩
     ·have hy:=uI HFY _ hv
      injection hy with hy1 hy2
      injection hy2 with hy2 hy3
      subst hy1 hy2
      have HR3:=zH (show R=if va=decide (x.k=3) then ((vb,vs),0) else ((0,false),9) from by rw[uI HR2,if_pos (uI K23)];unfold askC;rw[hv])
      have HV:=zH hv
      have H3:=zH hy3
      clear hv hy3
      simp only[Option.isSome_some]
      by_cases hz:0<sz
      ·have hva:=zH (show va=true from (uI H3).trans (decide_eq_true hz))
       by_cases hq:va=decide (x.k=3)
       ·obtain rfl:R=((vb,vs),0):=by rw[uI HR3,if_pos hq]
        have HQ3:=zH hq
        clear hq
        first
         | (exfalso;have h1:=uI HQ3;rw[uI hva] at h1;have h2:=uI KQ;revert h1;simp[h2];done)
         | (go_wp2_with fail;have K5:=qa3 (zY (uI S3).d (show w.heap.size≤w.heap.size+1 by omega) (.int .i64 vb) (.bool vs)) (Nat.le_refl _) (.cells #[.string nm',.int .i64 vb,.bool vs,.int .i64 sz,.bool gl] 138);obtain⟨p0,p1⟩:=(((uI S3).R.two9 (.int .i64 vb) (.bool vs)).step (qaa _ (.cells #[.string nm',.int .i64 vb,.bool vs,.int .i64 sz,.bool gl] 138))).at2;exact bodyPost_ret (v:=.tuple #[.agg #[.int .i64 vb,.bool vs],.int .i64 0]) (by simp[results,Tryz.results77,go_sem,p0,p1]) rfl ⟨rfl,K5⟩)
       ·obtain rfl:R=((0,false),9):=by rw[uI HR3,if_neg hq]
        have HQ3:=zH hq
        clear hq
        first
         | (exfalso;have h1:=uI HQ3;rw[uI hva] at h1;have h2:=uI KQ;revert h1;simp[h2];done)
         | (go_wp2_with fail;have K5:=qa3 (zY (uI S3).d (show w.heap.size≤w.heap.size+1 by omega) (.int .i64 0) (.bool false)) (Nat.le_refl _) (.cells #[.string nm',.int .i64 vb,.bool vs,.int .i64 sz,.bool gl] 138);obtain⟨p0,p1⟩:=(((uI S3).R.two9 (.int .i64 0) (.bool false)).step (qaa _ (.cells #[.string nm',.int .i64 vb,.bool vs,.int .i64 sz,.bool gl] 138))).at2;exact bodyPost_ret (v:=.tuple #[.agg #[.int .i64 0,.bool false],.int .i64 9]) (by simp[results,Tryz.results77,go_sem,p0,p1]) rfl ⟨rfl,K5⟩)
      ·have hva:=zH (show va=false from (uI H3).trans (decide_eq_false hz))
       by_cases hq:va=decide (x.k=3)
       ·obtain rfl:R=((vb,vs),0):=by rw[uI HR3,if_pos hq]
        have HQ3:=zH hq
        clear hq
        first
         | (exfalso;have h1:=uI HQ3;rw[uI hva] at h1;have h2:=uI KQ;revert h1;simp[h2];done)
         | (go_wp2_with fail;have K5:=qa3 (zY (uI S3).d (show w.heap.size≤w.heap.size+1 by omega) (.int .i64 vb) (.bool vs)) (Nat.le_refl _) (.cells #[.string nm',.int .i64 vb,.bool vs,.int .i64 sz,.bool gl] 138);obtain⟨p0,p1⟩:=(((uI S3).R.two9 (.int .i64 vb) (.bool vs)).step (qaa _ (.cells #[.string nm',.int .i64 vb,.bool vs,.int .i64 sz,.bool gl] 138))).at2;exact bodyPost_ret (v:=.tuple #[.agg #[.int .i64 vb,.bool vs],.int .i64 0]) (by simp[results,Tryz.results77,go_sem,p0,p1]) rfl ⟨rfl,K5⟩)
       ·obtain rfl:R=((0,false),9):=by rw[uI HR3,if_neg hq]
        have HQ3:=zH hq
        clear hq
        first
         | (exfalso;have h1:=uI HQ3;rw[uI hva] at h1;have h2:=uI KQ;revert h1;simp[h2];done)
         | (go_wp2_with fail;have K5:=qa3 (zY (uI S3).d (show w.heap.size≤w.heap.size+1 by omega) (.int .i64 0) (.bool false)) (Nat.le_refl _) (.cells #[.string nm',.int .i64 vb,.bool vs,.int .i64 sz,.bool gl] 138);obtain⟨p0,p1⟩:=(((uI S3).R.two9 (.int .i64 0) (.bool false)).step (qaa _ (.cells #[.string nm',.int .i64 vb,.bool vs,.int .i64 sz,.bool gl] 138))).at2;exact bodyPost_ret (v:=.tuple #[.agg #[.int .i64 0,.bool false],.int .i64 9]) (by simp[results,Tryz.results77,go_sem,p0,p1]) rfl ⟨rfl,K5⟩)
    ·have e2:(x.k==2)=false:=zBq (by omega)
     have e3:(x.k==3)=true:=beq_iff_eq.2 k3
     have KQ:=zH k3
     clear k3
     go_wp2_with fail
     refine (uI CF).mono ?_
     rintro e V1 ⟨nm',fb,fs,sz,gl,rfl,hfy,k1⟩
     have S3:=zH ((uI S2).next k1)
     have HFY:=zH hfy
     clear hfy k1 CF z0 z1 zf zl a0 a1 a2 a3 a4 a5 hsA
     obtain⟨z0,z1⟩:=(uI S3).R.at2
     have zf:=(uI S3).R.2.2
     have zl:=(uI S3).R.1
     obtain⟨a0,a1,a2,a3,a4,a5⟩:=(uI S3).A.six8
     have hsA:=(uI S3).A.1
     rcases hv:varC E L x.nm with _|⟨vb,vs,va⟩
     ·obtain rfl:R=((0,false),7):=by rw[uI HR2,if_pos (uI K23)];unfold askC;rw[hv]
      have HV:=zH hv
      clear hv
      simp only[Option.isSome_none]
      go_wp2_with fail
      have K5:=qa3 (zY (uI S3).d (show w.heap.size≤w.heap.size+1 by omega) (.int .i64 0) (.bool false)) (Nat.le_refl _) (.cells #[.string nm',.int .i64 fb,.bool fs,.int .i64 sz,.bool gl] 138)
      obtain⟨p0,p1⟩:=(((uI S3).R.two9 (.int .i64 0) (.bool false)).step (qaa _ (.cells #[.string nm',.int .i64 fb,.bool fs,.int .i64 sz,.bool gl] 138))).at2
      exact bodyPost_ret (v:=.tuple #[.agg #[.int .i64 0,.bool false],.int .i64 7]) (by simp[results,Tryz.results77,go_sem,p0,p1]) rfl ⟨rfl,K5⟩
     ·have hy:=uI HFY _ hv
      injection hy with hy1 hy2
      injection hy2 with hy2 hy3
      subst hy1 hy2
      have HR3:=zH (show R=if va=decide (x.k=3) then ((vb,vs),0) else ((0,false),9) from by rw[uI HR2,if_pos (uI K23)];unfold askC;rw[hv])
      have HV:=zH hv
      have H3:=zH hy3
      clear hv hy3
      simp only[Option.isSome_some]
      by_cases hz:0<sz
      ·have hva:=zH (show va=true from (uI H3).trans (decide_eq_true hz))
       by_cases hq:va=decide (x.k=3)
       ·obtain rfl:R=((vb,vs),0):=by rw[uI HR3,if_pos hq]
        have HQ3:=zH hq
        clear hq
        first
         | (exfalso;have h1:=uI HQ3;rw[uI hva] at h1;have h2:=uI KQ;revert h1;simp[h2];done)
         | (go_wp2_with fail;have K5:=qa3 (zY (uI S3).d (show w.heap.size≤w.heap.size+1 by omega) (.int .i64 vb) (.bool vs)) (Nat.le_refl _) (.cells #[.string nm',.int .i64 vb,.bool vs,.int .i64 sz,.bool gl] 138);obtain⟨p0,p1⟩:=(((uI S3).R.two9 (.int .i64 vb) (.bool vs)).step (qaa _ (.cells #[.string nm',.int .i64 vb,.bool vs,.int .i64 sz,.bool gl] 138))).at2;exact bodyPost_ret (v:=.tuple #[.agg #[.int .i64 vb,.bool vs],.int .i64 0]) (by simp[results,Tryz.results77,go_sem,p0,p1]) rfl ⟨rfl,K5⟩)
       ·obtain rfl:R=((0,false),9):=by rw[uI HR3,if_neg hq]
        have HQ3:=zH hq
        clear hq
        first
         | (exfalso;have h1:=uI HQ3;rw[uI hva] at h1;have h2:=uI KQ;revert h1;simp[h2];done)
         | (go_wp2_with fail;have K5:=qa3 (zY (uI S3).d (show w.heap.size≤w.heap.size+1 by omega) (.int .i64 0) (.bool false)) (Nat.le_refl _) (.cells #[.string nm',.int .i64 vb,.bool vs,.int .i64 sz,.bool gl] 138);obtain⟨p0,p1⟩:=(((uI S3).R.two9 (.int .i64 0) (.bool false)).step (qaa _ (.cells #[.string nm',.int .i64 vb,.bool vs,.int .i64 sz,.bool gl] 138))).at2;exact bodyPost_ret (v:=.tuple #[.agg #[.int .i64 0,.bool false],.int .i64 9]) (by simp[results,Tryz.results77,go_sem,p0,p1]) rfl ⟨rfl,K5⟩)
      ·have hva:=zH (show va=false from (uI H3).trans (decide_eq_false hz))
       by_cases hq:va=decide (x.k=3)
       ·obtain rfl:R=((vb,vs),0):=by rw[uI HR3,if_pos hq]
        have HQ3:=zH hq
        clear hq
        first
         | (exfalso;have h1:=uI HQ3;rw[uI hva] at h1;have h2:=uI KQ;revert h1;simp[h2];done)
         | (go_wp2_with fail;have K5:=qa3 (zY (uI S3).d (show w.heap.size≤w.heap.size+1 by omega) (.int .i64 vb) (.bool vs)) (Nat.le_refl _) (.cells #[.string nm',.int .i64 vb,.bool vs,.int .i64 sz,.bool gl] 138);obtain⟨p0,p1⟩:=(((uI S3).R.two9 (.int .i64 vb) (.bool vs)).step (qaa _ (.cells #[.string nm',.int .i64 vb,.bool vs,.int .i64 sz,.bool gl] 138))).at2;exact bodyPost_ret (v:=.tuple #[.agg #[.int .i64 vb,.bool vs],.int .i64 0]) (by simp[results,Tryz.results77,go_sem,p0,p1]) rfl ⟨rfl,K5⟩)
       ·obtain rfl:R=((0,false),9):=by rw[uI HR3,if_neg hq]
        have HQ3:=zH hq
        clear hq
        first
         | (exfalso;have h1:=uI HQ3;rw[uI hva] at h1;have h2:=uI KQ;revert h1;simp[h2];done)
         | (go_wp2_with fail;have K5:=qa3 (zY (uI S3).d (show w.heap.size≤w.heap.size+1 by omega) (.int .i64 0) (.bool false)) (Nat.le_refl _) (.cells #[.string nm',.int .i64 vb,.bool vs,.int .i64 sz,.bool gl] 138);obtain⟨p0,p1⟩:=(((uI S3).R.two9 (.int .i64 0) (.bool false)).step (qaa _ (.cells #[.string nm',.int .i64 vb,.bool vs,.int .i64 sz,.bool gl] 138))).at2;exact bodyPost_ret (v:=.tuple #[.agg #[.int .i64 0,.bool false],.int .i64 9]) (by simp[results,Tryz.results77,go_sem,p0,p1]) rfl ⟨rfl,K5⟩)
   have e2:(x.k==2)=false:=zBq (by omega)
   have e3:(x.k==3)=false:=zBq (by omega)
   have HR3:=zH (show R=(tyO x.k x.b x.s acc,0) from (uI HR2).trans (if_neg k23))
   have n4:=uI H4
   by_cases k8:x.k≤8
   ·have hl1:acc.length=1:=by
     rw[uI HL2]
     unfold kidHi kidLo at *
     rw[if_neg (by omega),if_pos (by omega)] at kkl
     rw[if_neg (by omega),if_neg (by omega),if_pos (by omega)] at kkh
     omega
    obtain⟨t,hacc1⟩:∃ t,acc=[t]:=by
     match acc,hl1 with
     | [t],_=>exact⟨t,rfl⟩
    clear hl1
    by_cases k67:x.k=6∨x.k=7
    ·obtain rfl:R=((pb t.1,ps t.1 t.2),0):=by
      rw[uI HR3,hacc1]
      show ((if x.k=5 then (x.b,x.s) else if x.k=6∨x.k=7 then (pb t.1,ps t.1 t.2) else (16,true)),(0:Int))=_
      rw[if_neg (by omega),if_pos k67]
     clear HR2 HR3 HL2
     have HZ:=zH (And.intro klo (And.intro khi (And.intro kkl kkh)))
     clear klo khi kkl kkh k15 k23 k8 n4 HA
     rcases k67 with k6|k7
     ·have e6:(x.k==6)=true:=beq_iff_eq.2 k6
      clear k6
      obtain⟨rb0,ro0,rc0,e0,hrb,x0,x1⟩:=mt_read (Lies.owned (uI O2)) 0 (by rw[hacc1];exact Nat.zero_lt_one)
      subst hacc1
      injection e0 with e0 _ e2
      subst e0 e2
      simp only[Nat.zero_mul,Nat.add_zero,List.getElem_cons_zero] at x0 x1
      have CW:=zH (qbj t.1 t.2 V0)
      go_wp2_with fail
      refine (uI CW).mono ?_
      rintro e V1 ⟨rfl,k1⟩
      have S3:=zH ((uI S2).next k1)
      clear k1 CW z0 z1 zf zl
      obtain⟨z0,z1⟩:=(uI S3).R.at2
      have zf:=(uI S3).R.2.2
      have zl:=(uI S3).R.1
      go_wp2_with fail
      have K5:=zY (uI S3).d (show w.heap.size≤w.heap.size+1 by omega) (.int .i64 (pb t.1)) (.bool (ps t.1 t.2))
      obtain⟨p0,p1⟩:=((uI S3).R.two9 (.int .i64 (pb t.1)) (.bool (ps t.1 t.2))).at2
      exact bodyPost_ret (v:=.tuple #[.agg #[.int .i64 (pb t.1),.bool (ps t.1 t.2)],.int .i64 0]) (by simp[results,Tryz.results77,go_sem,p0,p1]) rfl ⟨rfl,K5⟩
     ·have e6:(x.k==6)=false:=zBq (by omega)
      have e7:(x.k==7)=true:=beq_iff_eq.2 k7
      clear k7
      obtain⟨rb0,ro0,rc0,e0,hrb,x0,x1⟩:=mt_read (Lies.owned (uI O2)) 0 (by rw[hacc1];exact Nat.zero_lt_one)
      subst hacc1
      injection e0 with e0 _ e2
      subst e0 e2
      simp only[Nat.zero_mul,Nat.add_zero,List.getElem_cons_zero] at x0 x1
      have CW:=zH (qbj t.1 t.2 V0)
      go_wp2_with fail
      refine (uI CW).mono ?_
      rintro e V1 ⟨rfl,k1⟩
      have S3:=zH ((uI S2).next k1)
      clear k1 CW z0 z1 zf zl
      obtain⟨z0,z1⟩:=(uI S3).R.at2
      have zf:=(uI S3).R.2.2
      have zl:=(uI S3).R.1
      go_wp2_with fail
      have K5:=zY (uI S3).d (show w.heap.size≤w.heap.size+1 by omega) (.int .i64 (pb t.1)) (.bool (ps t.1 t.2))
      obtain⟨p0,p1⟩:=((uI S3).R.two9 (.int .i64 (pb t.1)) (.bool (ps t.1 t.2))).at2
      exact bodyPost_ret (v:=.tuple #[.agg #[.int .i64 (pb t.1),.bool (ps t.1 t.2)],.int .i64 0]) (by simp[results,Tryz.results77,go_sem,p0,p1]) rfl ⟨rfl,K5⟩
    ·have e6:(x.k==6)=false:=zBq (by omega)
     have e7:(x.k==7)=false:=zBq (by omega)
     have e8:(x.k==8)=true:=beq_iff_eq.2 (by omega)
     obtain rfl:R=((16,true),0):=by
      rw[uI HR3,hacc1]
      show ((if x.k=5 then (x.b,x.s) else if x.k=6∨x.k=7 then (pb t.1,ps t.1 t.2) else (16,true)),(0:Int))=_
      rw[if_neg (by omega),if_neg k67]
     clear klo khi kkl kkh k15 k23 k8 n4 HA k67 HR2 HR3 HL2 hacc1
     have CW:=zH (qa2 V0)
     go_wp2_with fail
     refine (uI CW).mono ?_
     rintro e V1 ⟨rfl,k1⟩
     have S3:=zH ((uI S2).next k1)
     clear k1 CW z0 z1 zf zl
     obtain⟨z0,z1⟩:=(uI S3).R.at2
     have zf:=(uI S3).R.2.2
     have zl:=(uI S3).R.1
     go_wp2_with fail
     have K5:=zY (uI S3).d (show w.heap.size≤w.heap.size+1 by omega) (.int .i64 16) (.bool true)
     obtain⟨p0,p1⟩:=((uI S3).R.two9 (.int .i64 16) (.bool true)).at2
     exact bodyPost_ret (v:=.tuple #[.agg #[.int .i64 16,.bool true],.int .i64 0]) (by simp[results,Tryz.results77,go_sem,p0,p1]) rfl ⟨rfl,K5⟩
   have hl1:acc.length=2:=by
    rw[uI HL2]
    unfold kidHi kidLo at *
    rw[if_neg (by omega),if_neg (by omega)] at kkl
    rw[if_neg (by omega),if_neg (by omega),if_neg (by omega)] at kkh
    omega
   obtain⟨t,u,hacc1⟩:∃ t u,acc=[t,u]:=by
    match acc,hl1 with
    | [t,u],_=>exact⟨t,u,rfl⟩
   clear hl1
   have e6:(x.k==6)=false:=zBq (by omega)
   have e7:(x.k==7)=false:=zBq (by omega)
   have e8:(x.k==8)=false:=zBq (by omega)
   have HR4:=zH (show R=((if x.k=25∨x.k=26 then (16,true) else (Go.Proofs.YtjpnnmkefaodoaaGreat.rb x.k t.1 u.1,rs x.k t.1 t.2 u.1 u.2)),0) from by rw[uI HR3,hacc1];rfl)
   by_cases k25:x.k=25
   ·have e25:(x.k==25)=true:=beq_iff_eq.2 k25
    obtain rfl:R=((16,true),0):=by rw[uI HR4,if_pos (.inl k25)]
    clear klo khi kkl kkh k15 k23 k8 n4 HA k25 HR2 HR3 HR4 HL2 hacc1
    have CW:=zH (qa2 V0)
    go_wp2_with fail
    refine (uI CW).mono ?_
    rintro e V1 ⟨rfl,k1⟩
    have S3:=zH ((uI S2).next k1)
    clear k1 CW z0 z1 zf zl
    obtain⟨z0,z1⟩:=(uI S3).R.at2
    have zf:=(uI S3).R.2.2
    have zl:=(uI S3).R.1
    go_wp2_with fail
    have K5:=zY (uI S3).d (show w.heap.size≤w.heap.size+1 by omega) (.int .i64 16) (.bool true)
    obtain⟨p0,p1⟩:=((uI S3).R.two9 (.int .i64 16) (.bool true)).at2
    exact bodyPost_ret (v:=.tuple #[.agg #[.int .i64 16,.bool true],.int .i64 0]) (by simp[results,Tryz.results77,go_sem,p0,p1]) rfl ⟨rfl,K5⟩
   have e25:(x.k==25)=false:=zBq k25
   by_cases k26:x.k=26
   ·have e26:(x.k==26)=true:=beq_iff_eq.2 k26
    obtain rfl:R=((16,true),0):=by rw[uI HR4,if_pos (.inr k26)]
    clear klo khi kkl kkh k15 k23 k8 n4 HA k25 k26 HR2 HR3 HR4 HL2 hacc1
    have CW:=zH (qa2 V0)
    go_wp2_with fail
    refine (uI CW).mono ?_
    rintro e V1 ⟨rfl,k1⟩
    have S3:=zH ((uI S2).next k1)
    clear k1 CW z0 z1 zf zl
    obtain⟨z0,z1⟩:=(uI S3).R.at2
    have zf:=(uI S3).R.2.2
    have zl:=(uI S3).R.1
    go_wp2_with fail
    have K5:=zY (uI S3).d (show w.heap.size≤w.heap.size+1 by omega) (.int .i64 16) (.bool true)
    obtain⟨p0,p1⟩:=((uI S3).R.two9 (.int .i64 16) (.bool true)).at2
    exact bodyPost_ret (v:=.tuple #[.agg #[.int .i64 16,.bool true],.int .i64 0]) (by simp[results,Tryz.results77,go_sem,p0,p1]) rfl ⟨rfl,K5⟩
   have e26:(x.k==26)=false:=zBq k26
   obtain rfl:R=((Go.Proofs.YtjpnnmkefaodoaaGreat.rb x.k t.1 u.1,rs x.k t.1 t.2 u.1 u.2),0):=by rw[uI HR4,if_neg (by omega)]
   clear klo khi kkl kkh k15 k23 k8 n4 HA k25 k26 HR2 HR3 HR4 HL2
   obtain⟨rb0,ro0,rc0,e0,hrb,x0,x1⟩:=mt_read (Lies.owned (uI O2)) 0 (by rw[hacc1];exact Nat.zero_lt_two)
   obtain⟨rb1,ro1,rc1,e0',-,y0,y1⟩:=mt_read (Lies.owned (uI O2)) 1 (by rw[hacc1];exact Nat.one_lt_two)
   subst hacc1
   injection e0 with e0 _ e2
   subst e0 e2
   injection e0' with e0' _ e2'
   injection e0' with e0'
   injection e0' with e3a e3b
   subst e3a e3b e2'
   simp only[Nat.zero_mul,Nat.one_mul,Nat.add_zero,List.getElem_cons_zero,List.getElem_cons_succ] at x0 x1 y0 y1
   go_wp2_with fail
   have CL:=zH (fun (W:World) (A:Box W w.heap.size [.int .i64 x.k,.int .u64 x.n,.int .i64 x.b,.bool x.s,.string x.nm,.slice ka x.kids.length kc]) (O:W.ownsRow (w.heap.size+2) 34 2 (.slice (some ⟨rb0,ro0,none⟩) 2 oc) 2 ([t,u].flatMap mtC))=>(⟨A.2.1 0 _ rfl,(mt_two O).1,(mt_two O).2.1,(mt_two O).2.2.1,(mt_two O).2.2.2⟩:W.cell? ⟨w.heap.size,0,none⟩=some (.int .i64 x.k)∧W.cell? ⟨rb0,ro0,none⟩=some (.int .i64 t.1)∧W.cell? ⟨rb0,ro0+1,none⟩=some (.bool t.2)∧W.cell? ⟨rb0,ro0+2,none⟩=some (.int .i64 u.1)∧W.cell? ⟨rb0,ro0+2+1,none⟩=some (.bool u.2)))
   refine zU (fun W=>W.cell? ⟨w.heap.size,0,none⟩=some (.int .i64 x.k)∧W.cell? ⟨rb0,ro0,none⟩=some (.int .i64 t.1)∧W.cell? ⟨rb0,ro0+1,none⟩=some (.bool t.2)∧W.cell? ⟨rb0,ro0+2,none⟩=some (.int .i64 u.1)∧W.cell? ⟨rb0,ro0+2+1,none⟩=some (.bool u.2)) (by kernel_rfl) ?_
   have S3:=zH ((uI S2).next (Below.refl _ _).drew)
   have O3:=zH (show V0.drew.ownsRow (w.heap.size+2) 34 2 (.slice (some ⟨rb0,ro0,none⟩) 2 oc) 2 ([t,u].flatMap mtC) from qay (uI O2) (Below.refl _ _).drew)
   clear S2 O2 x0 x1 y0 y1 a0 a1 a2 a3 a4 a5 hsA z0 z1 zf zl hrb
   generalize V0.drew=V8 at *
   have CW:=zH (rresult_any x.k t.1 t.2 u.1 u.2 V8)
   refine qR 0 8 3 ?_
   simp only[zTD]
   repeat (refine zS (fun K hK=>?_);go_simp;first|(refine zQ ?_ (fun W hW=>?_) (hK _ ?_);rotate_left;(obtain⟨d0,d1,d2,d3,d4⟩:=hW;go_simp;first|done|rfl);clear hK K)|(refine hK _ ?_;clear hK K))
   refine zO ?_
   refine qO 8 2 (uI CL _ (uI S3).A (uI O3)) ?_
   simp only[zTD]
   go_wp2_with fail
   refine (uI CW).mono ?_
   rintro e V9 ⟨rfl,k9⟩
   have S4:=zH ((uI S3).next k9)
   have O4:=zH (qay (uI O3) k9)
   clear CW k9 S3 O3
   go_wp2_with fail
   first|refine zN ?_|refine zG ?_
   obtain⟨z0,z1⟩:=(uI S4).R.at2
   have zf:=(uI S4).R.2.2
   have zl:=(uI S4).R.1
   refine qO 9 1 (uI CL _ (uI S4).A (uI O4)) ?_
   simp only[zTD]
   go_wp2_with fail
   first|refine zN ?_|refine zG ?_
   have K5:=zY (uI S4).d (show w.heap.size≤w.heap.size+1 by omega) (.int .i64 (Go.Proofs.YtjpnnmkefaodoaaGreat.rb x.k t.1 u.1)) (.bool (rs x.k t.1 t.2 u.1 u.2))
   obtain⟨p0,p1⟩:=((uI S4).R.two9 (.int .i64 (Go.Proofs.YtjpnnmkefaodoaaGreat.rb x.k t.1 u.1)) (.bool (rs x.k t.1 t.2 u.1 u.2))).at2
   have A5:=(((uI S4).A.other (b':=w.heap.size+1) (j:=0) (u:=.int .i64 (Go.Proofs.YtjpnnmkefaodoaaGreat.rb x.k t.1 u.1)) (by omega)).other (b':=w.heap.size+1) (j:=1) (u:=.bool (rs x.k t.1 t.2 u.1 u.2)) (by omega))
   have hne:∀ q,(Value.slice (some ⟨rb0,ro0,none⟩) 2 oc).ownBlock=some q→q≠w.heap.size+1:=fun q e=>by have:=((uI O4).lt q e).1;omega
   have O5:=qbc (u:=.bool (rs x.k t.1 t.2 u.1 u.2)) (j:=1) (qbc (u:=.int .i64 (Go.Proofs.YtjpnnmkefaodoaaGreat.rb x.k t.1 u.1)) (j:=0) (uI O4) hne) hne
   generalize (V9.setCell ⟨w.heap.size+1,0,none⟩ (.int .i64 (Go.Proofs.YtjpnnmkefaodoaaGreat.rb x.k t.1 u.1))).setCell ⟨w.heap.size+1,1,none⟩ (.bool (rs x.k t.1 t.2 u.1 u.2))=W5 at *
   refine qO 10 0 (uI CL _ A5 O5) ?_
   simp only[zTD]
   go_wp2_with fail
   first|refine zN ?_|refine zG ?_
   refine zE (by kernel_rfl) (uI CL _ A5 O5) ?_
   clear z0 z1 zf zl A5 O5 hne S4 O4 CL
   go_wp2_with fail
   exact bodyPost_ret (v:=.tuple #[.agg #[.int .i64 (Go.Proofs.YtjpnnmkefaodoaaGreat.rb x.k t.1 u.1),.bool (rs x.k t.1 t.2 u.1 u.2)],.int .i64 0]) (by simp[results,Tryz.results77,go_sem,p0,p1]) rfl ⟨rfl,K5⟩
end Go.Proofs.YtjpnnmkefaodoaaGreat
