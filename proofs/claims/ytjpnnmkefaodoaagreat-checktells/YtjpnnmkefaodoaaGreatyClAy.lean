/-
  ClA, TyU, CnW, ClD.
-/
import Derived.Test.YtjpnnmkefaodoaaGreatyClBy
set_option maxHeartbeats 8000000
set_option maxRecDepth 100000
namespace Go.Proofs.YtjpnnmkefaodoaaGreat
open Go.RowKit Go.Maps Go.Great
set_option linter.unusedSimpArgs false
set_option linter.unusedVariables false
theorem SmL.mono9 {B B':Nat}{w:World}{v:Value}{xs:List Sm}(h:SmL B w v xs)(hB:B≤B'):SmL B' w v xs:=by
 induction h with
 | mk v xs ks hl hv lies ok hx hi h1 h2 h3 h4 i1 i2 i3 i4=>exact .mk v xs ks hl (fun c hc hn=>Nat.lt_of_lt_of_le (hv c hc hn) hB) lies ok (fun i h=>(hx i h).mono9 hB) (fun i h=>(hi i h).mono9 hB) i1 i2 i3 i4
theorem RowL.mono9 {α β:Type}{n:Nat}{c:α→β→List Value}{Pr Pr':World→α→β→Prop}{B B':Nat}{w:World}{v:Value}{xs:List α}{ks:List β}(h:RowL n c Pr B w v xs ks)(hB:B≤B')(hp:∀ x y,Pr w x y→Pr' w x y):RowL n c Pr' B' w v xs ks :=
 ⟨h.hl,fun c hc hn=>Nat.lt_of_lt_of_le (h.hv c hc hn) hB,h.lies,fun i hi=>hp _ _ (h.each i hi)⟩
theorem PmL.mono9 {B B':Nat}{w:World}{v:Value}{ps:List Pm}(h:PmL B w v ps)(hB:B≤B'):PmL B' w v ps:=by
 obtain⟨ks,r⟩:=h
 exact⟨ks,r.mono9 hB fun _ _ q=>q⟩
theorem GbL.mono9 {B B':Nat}{w:World}{v:Value}{gs:List Gb}(h:GbL B w v gs)(hB:B≤B'):GbL B' w v gs:=by
 obtain⟨ks,r⟩:=h
 exact⟨ks,r.mono9 hB fun _ _ q=>⟨q.1,q.2.mono9 hB⟩⟩
theorem FnL.mono9 {B B':Nat}{w:World}{v:Value}{fs:List Fn8}(h:FnL B w v fs)(hB:B≤B'):FnL B' w v fs:=by
 obtain⟨ks,r⟩:=h
 exact⟨ks,r.mono9 hB fun _ _ q=>⟨q.1,q.2.1.mono9 hB,q.2.2.mono9 hB⟩⟩
structure Fd (W0 W:World)(sb vb fb lb:Nat)(wd:Int)(E:Nev)(res:Int × Bool)(M:Loc)(left:Nat):Prop where
 sc:Sc W0.heap.size W sb vb fb lb wd E M res 0
 k:Below W0.heap.size W0 W
 ok:OpOk M
 fr:M.fr+4*(left:Int)≤1000000
theorem wrongF_any (E:Nev)(f:Fn8)(pa sa:Option Addr)(pc sc:Nat)(B:Nat)(w:World)(vb fb:Nat)(wd:Int)(h:Nm w vb fb E)(hB:B≤w.heap.size)(hp:PmL B w (.slice pa f.params.length pc) f.params)(hs:SmL B w (.slice sa f.body.length sc) f.body)(hw:∀ p∈f.params,IsW p.b)(ht:∀ y∈f.body,TvS y)(hn:∀ y∈f.body,NmS y)(hz:f.params.length+szL f.body≤200000) :
  Calls Tryz.prog 13 #[.agg #[.map (some vb),.map (some fb),.int .i64 wd],.agg #[.string f.nm,.int .i64 f.b,.bool f.s,.slice pa f.params.length pc,.slice sa f.body.length sc]] w fun e w'=>e=.returned (.int .i64 (ckF E f))∧Below w.heap.size w w':=by
 obtain⟨_,_,_,hmax⟩:=hp.slice
 unfold maxLen at hmax
 have k1:=qaa w (.cells #[.map (some vb),.map (some fb),.int .i64 wd] 47)
 have BN:=Box.new w #[.map (some vb),.map (some fb),.int .i64 wd] 47
 have s1:=World.heap_alloc_size w (.cells #[.map (some vb),.map (some fb),.int .i64 wd] 47)
 generalize hW1:w.alloc (.cells #[.map (some vb),.map (some fb),.int .i64 wd] 47)=w1 at *
 have k2:=bT k1 (qaa w1 (.cells #[.string f.nm,.int .i64 f.b,.bool f.s,.slice pa f.params.length pc,.slice sa f.body.length sc] 41))
 have BN:=BN.step (qaa w1 (.cells #[.string f.nm,.int .i64 f.b,.bool f.s,.slice pa f.params.length pc,.slice sa f.body.length sc] 41))
 have s2:=World.heap_alloc_size w1 (.cells #[.string f.nm,.int .i64 f.b,.bool f.s,.slice pa f.params.length pc,.slice sa f.body.length sc] 41)
 have BF:=Box.new w1 #[.string f.nm,.int .i64 f.b,.bool f.s,.slice pa f.params.length pc,.slice sa f.body.length sc] 41
 generalize hW0:w1.alloc (.cells #[.string f.nm,.int .i64 f.b,.bool f.s,.slice pa f.params.length pc,.slice sa f.body.length sc] 41)=W0 at *
 have hN:=h.step k2
 have hltN:=hN.lt
 have HP:=zH ((hp.step (k2.mono hB)).mono9 (show B≤W0.heap.size by omega))
 have HS:=zH ((hs.step (k2.mono hB)).mono9 (show B≤W0.heap.size by omega))
 have CN:=zH (newScope_any W0.heap.size W0 vb fb wd E (f.b,f.s) hN hltN.1 hltN.2 (Nat.le_refl _))
 have K0:=zH k2
 have HBF:=zH BF
 obtain⟨d0,d1,d2,d3,d4⟩:=qat BF
 obtain⟨n0,n1,n2⟩:=BN.at3
 have HI:=zH (fun y hy=>cstat_any E (f.b,f.s) y (ht y hy) (hn y hy))
 have HW:=zH hw
 have HN:=zH hn
 have HZ:=zH hz
 have hs0:w1.heap.size<W0.heap.size:=by omega
 obtain⟨R,hR⟩:∃ R,R=ckF E f:=⟨_,rfl⟩
 rw[← hR]
 obtain⟨Q,hQ⟩:∃ Q,Q=ckPs f.params ⟨fun _=>none,[],0⟩:=⟨_,rfl⟩
 have HQ:=zH (show ckPs (f.params.drop 0) ⟨fun _=>none,[],0⟩=Q from hQ.symm)
 have hF2:R=if Q.1≠0 then Q.1 else if (hid Q.2 (ckL E (f.b,f.s) f.body 0 Q.2)).1≠0 then (hid Q.2 (ckL E (f.b,f.s) f.body 0 Q.2)).1 else if 200<(hid Q.2 (ckL E (f.b,f.s) f.body 0 Q.2)).2.fr then 4 else 0:=by rw[hR,hQ];rfl
 have HF:=zH hF2
 clear h hp hs hw ht hn hB k1 k2 BF BN hN hltN s1 s2 hR hQ hF2 hz
 obtain⟨nm,b,s,ps,body⟩:=f
 dsimp only at *
 go_enter Tryz.func13,Tryz.ntmps13
 go_wp2_with (first|(refine wpList_boxTo rfl 47 (.tmp 0) rfl (some 2) rfl _ rfl _ rfl ?_;rw[hW1])|(refine wpList_boxTo rfl 41 (.tmp 1) rfl (some 3) rfl _ rfl _ rfl ?_;rw[hW0]))
 refine (uI CN).mono ?_
 rintro e W1 ⟨sb,lb,rfl,sc1,k3⟩
 have BF1:=(uI HBF).step k3
 obtain⟨c0,c1,c2,c3,c4⟩:=qat BF1
 have hs1:w1.heap.size<W1.heap.size:=BF1.1
 have F0:=zH (show Fd W0 W1 sb vb fb lb wd E (b,s) ⟨fun _=>none,[],0⟩ (ps.length+szL body) from⟨sc1,k3,fun k hk=>by simp at hk,by have:=uI HZ;show (0:Int)+4*((ps.length+szL body:Nat):Int)≤1000000;omega⟩)
 clear sc1 k3 BF1 d0 d1 d2 d3 d4 n0 n1 n2 CN hs0
 go_wp2_with fail
 go_loopg [17] ps.length (fun g y wr=>∃ (i:Nat) (M:Loc),i≤ps.length∧g=ps.length - i∧y=.int .i64 (i:Int)∧Hid (Fd W0 wr sb vb fb lb wd E (b,s) M (ps.length - i+szL body))∧Hid (ckPs (ps.drop i) M=Q))
 case atStart=>exact⟨0,_,Nat.zero_le _,rfl,rfl,F0,HQ⟩
 case round =>
  clear F0 HQ c0 c1 c2 c3 c4 hs1
  obtain⟨i,M,hi,hg,rfl,HC,HE⟩:=hrel
  generalize wr=V0 at *
  by_cases hlt:i<ps.length
  ·obtain⟨b1,o1,rfl,hb1,hnm,x0,x1,x2⟩:=((uI HP).step (uI HC).k).read i hlt
   have hiI:(i:Int)<(ps.length:Int):=by omega
   have hi0:(0:Int)≤(i:Int):=by omega
   have HD:=zH (show ps.drop i=ps[i]::ps.drop (i+1) from List.drop_eq_getElem_cons hlt)
   rw[uI HD,ckPs] at HE
   have hsb:=(uI HC).sc.lts.1
   have ka:=qaa V0 (.cells #[.int .i64 ps[i].b,.bool ps[i].s,.string ps[i].nm] 74)
   have hfr:=(uI HC).fr
   have CD:=zH (declare_any W0.heap.size (V0.alloc (.cells #[.int .i64 ps[i].b,.bool ps[i].s,.string ps[i].nm] 74)) sb vb fb lb wd E M (b,s) 0 ((uI HC).sc.step ka) ps[i].b ps[i].s ps[i].nm hnm (uI HW _ (List.getElem_mem hlt)) (by omega))
   have GD:=zH (gd_decl M ps[i].b ps[i].s ps[i].nm hnm)
   have KA:=zH (bT (uI HC).k ka)
   have HO:=zH (uI HC).ok
   have HFR:=zH hfr
   clear HD ka hnm hfr HC
   generalize ps[i]=y at *
   obtain⟨yb,ys,yn⟩:=y
   dsimp only at *
   generalize declC M yb ys yn=T at *
   obtain⟨er,N⟩:=T
   go_wp2_with fail
   refine (uI CD).mono ?_
   rintro e V1 ⟨rfl,sc2,k4⟩
   have S2:=zH (show Sc W0.heap.size V1 sb vb fb lb wd E N (b,s) 0 from sc2)
   have K2:=zH ((uI KA).trans k4.below)
   clear CD sc2 k4 KA
   by_cases her:er=0
   ·subst her
    go_wp2_with fail
    go_roundg (ps.length - (i+1))
    case measure=>omega
    case rel =>
     obtain⟨g1,g2,g3,g4⟩:=uI GD
     have:=uI HFR
     exact⟨i+1,N,by omega,rfl,by go_num,zH ⟨uI S2,uI K2,g3 (uI HO),by omega⟩,zH (by have:=uI HE;simpa [thc] using this)⟩
   ·have hQ:Q=(er,N):=by have:=uI HE;unfold thc at this;rw[if_pos (by exact her)] at this;exact this.symm
    subst hQ
    have hF:=uI HF
    rw[if_pos (by exact her)] at hF
    have ee:(er==0)=false:=zBq her
    dsimp only at hF
    subst hF
    go_wp2_with fail
    go_ret
    exact⟨rfl,(uI K0).trans ((uI K2).mono (uI K0).size)⟩
  ·have hiI:¬ (i:Int)<(ps.length:Int):=by omega
   rw[List.drop_eq_nil_of_le (by omega),ckPs] at HE
   have hQ:Q=(0,M):=(uI HE).symm
   subst hQ
   have hF:=uI HF
   rw[if_neg (by simp)] at hF
   have HF1:=zH hF
   have hfr:=(uI HC).fr
   have hk0:=(uI HC).k
   have BF1:=(uI HBF).step hk0
   obtain⟨c0,c1,c2,c3,c4⟩:=qat BF1
   have hs1:w1.heap.size<V0.heap.size:=BF1.1
   have CB:=zH (cblock_any E (b,s) body (uI HI) (uI HN) W0.heap.size V0 sb vb fb lb wd M 0 (.slice sa body.length sc) (uI HC).sc ((uI HS).step hk0) (uI HC).ok (by omega) (by have:=uI HZ;omega))
   have K2:=zH hk0
   clear hF HF hfr hk0 BF1 HC HE HI HN HP
   generalize hid M (ckL E (b,s) body 0 M)=T at *
   obtain⟨er,N⟩:=T
   dsimp only at HF1
   go_wp2_with fail
   refine (uI CB).mono ?_
   rintro e V1 ⟨rfl,sc2,k4⟩
   have S2:=zH (show Sc W0.heap.size V1 sb vb fb lb wd E N (b,s) 0 from sc2)
   have K3:=zH ((uI K2).trans k4.below)
   clear CB sc2 k4 K2 c0 c1 c2 c3 c4 hs1
   by_cases her:er=0
   ·subst her
    have hF:=uI HF1
    rw[if_neg (by simp)] at hF
    have HF2:=zH hF
    obtain⟨v,n,h1,-⟩:=(uI S2).has
    have f5:=zC h1 5 _ rfl
    have hsb:=h1.lt
    have hsf:=h1.box.2.2
    clear hF HF1 h1
    generalize N.fr=q at *
    by_cases hq:200<q
    ·have hF:=uI HF2
     rw[if_pos hq] at hF
     subst hF
     go_wp2_with fail
     go_ret
     exact⟨rfl,(uI K0).trans ((uI K3).mono (uI K0).size)⟩
    ·have hF:=uI HF2
     rw[if_neg hq] at hF
     subst hF
     go_wp2_with fail
     go_ret
     exact⟨rfl,(uI K0).trans ((uI K3).mono (uI K0).size)⟩
   ·have hF:=uI HF1
    rw[if_pos her] at hF
    subst hF
    have ee:(R==0)=false:=zBq her
    go_wp2_with fail
    go_ret
    exact⟨rfl,(uI K0).trans ((uI K3).mono (uI K0).size)⟩
open Go.RowKit
theorem unary_log (a x:Int)(s:Bool)(w:World)(h:IsW x)(ha:U a):Calls Tryz.prog 86 #[.int .i64 8,.int .u64 a,.agg #[.int .i64 x,.bool s]] w fun e w'=>e=.returned (.tuple #[.int .u64 (b1 (conv a x s (pb x)==0)),.agg #[.int .i64 16,.bool true],.int .i64 0])∧Below w.heap.size w w':=by
 have hX:=isW_p h
 go_enter Tryz.func86,Tryz.ntmps86
 go_wp2_with fail
 have R0:=zX (Duo.new (w:=w) (T:=34) (a0:=.int .i64 x) (a1:=.bool s) (b0:=.int .i64 0) (b1:=.bool false) (Below.refl _ _))
 generalize (w.alloc (.cells #[.int .i64 x,.bool s] 34)).alloc (.cells #[.int .i64 0,.bool false] 34)=w0 at *
 refine (qaz x s w0 h).mono ?_
 rintro e w1 ⟨rfl,k1⟩
 have R1:=zX ((uX R0).step k1)
 clear k1 R0
 obtain⟨x0,x1⟩:=(uX R1).A.at2
 go_wp2_with fail
 refine (qa6 x s w1).mono ?_
 rintro e w2 ⟨rfl,k2⟩
 have R2:=zX ((uX R1).step k2)
 clear k2 R1 x0 x1
 have R3:=zX ((uX R2).more (T:=34) (u:=.int .i64 (pb x)) (v:=.bool (ps x s)))
 obtain⟨x0,x1⟩:=(uX R2).A.at2
 have lx:=(uX R2).A.1
 have lB:=(uX R2).B.1
 go_wp2_with fail
 clear x0 x1 lx R2
 have hpt:w2.heap.size≠w.heap.size+1:=by have:=lB;omega
 generalize w2.alloc (.cells #[.int .i64 (pb x),.bool (ps x s)] 34)=w3 at *
 generalize w2.heap.size=pt at *
 refine (qa5 a x s (pb x) (ps x s) w3 h hX ha).mono ?_
 rintro e w4 ⟨rfl,k4⟩
 have R:=zX ((uX R3).1.step k4)
 have T:=zX ((uX R3).2.step k4)
 clear k4 R3
 obtain⟨t0,t1⟩:=(uX T).at2
 go_wp2_with fail
 refine (oneIf_any _ _).mono ?_
 rintro e w' ⟨rfl,hw⟩
 subst w'
 go_wp2_with fail
 refine (i16_any w4).mono ?_
 rintro e w5 ⟨rfl,k5⟩
 have R':=zX ((uX R).step k5)
 clear R k5 T t0 t1
 have R:=R'
 clear R'
 obtain⟨r0,r1⟩:=(uX R).B.at2
 have rf:=(uX R).B.2.2
 have p0:=(uX R).B.put0
 have p1:=(uX R).B.put1
 go_wp2_with fail
 exact bodyPost_ret (v:=.tuple #[.int .u64 (b1 (conv a x s (pb x)==0)),.agg #[.int .i64 16,.bool true],.int .i64 0]) (by simp[results,Tryz.results86,go_sem,p0,p1]) rfl ⟨rfl,zY (uX R).bel (by omega) _ _⟩
theorem xor_max {C:Int}(h:U C):bits .xor .u64 IntKind.u64.max C=18446744073709551615 - C:=by
 obtain⟨h0,h1⟩:=h
 obtain⟨m,rfl⟩:∃ m:Nat,C=m:=⟨C.toNat,by omega⟩
 have e1:BitVec.ofInt 64 IntKind.u64.max=BitVec.allOnes 64:=by decide
 have e2:(BitVec.ofInt 64 (m:Int)).toNat=m:=by
  rw[BitVec.ofInt_natCast,BitVec.toNat_ofNat];exact Nat.mod_eq_of_lt (by omega)
 show IntKind.u64.wrap ((BitVec.ofInt 64 IntKind.u64.max ^^^ BitVec.ofInt 64 (m:Int)).toNat:Int)=_
 rw[e1,BitVec.allOnes_xor,BitVec.toNat_not,e2,qbl]
 omega
theorem cut_not {n C:Int}(hn:IsW n)(h:U C):cut n (bits .xor .u64 IntKind.u64.max C)=cut n (-C - 1):=by
 rw[xor_max h,← cut_wrap hn (-C - 1),qbl]
 obtain⟨h0,h1⟩:=h
 congr 1
 omega
theorem u_not {C:Int}(h:U C):U (bits .xor .u64 IntKind.u64.max C):=by
 rw[xor_max h]
 obtain⟨h0,h1⟩:=h
 exact⟨by omega,by omega⟩
theorem unary_neg (a x:Int)(s:Bool)(w:World)(h:IsW x)(ha:U a):Calls Tryz.prog 86 #[.int .i64 6,.int .u64 a,.agg #[.int .i64 x,.bool s]] w fun e w'=>e=.returned (.tuple #[.int .u64 (cut (pb x) (-conv a x s (pb x))),.agg #[.int .i64 (pb x),.bool (ps x s)],.int .i64 0])∧Below w.heap.size w w':=by
 have hX:=isW_p h
 have CU:=zX (fun (w:World)=>tcut_any (IntKind.u64.wrap (-conv a x s (pb x))) (pb x) (ps x s) w hX (u_wrap _))
 rw[cut_wrap hX] at CU
 go_enter Tryz.func86,Tryz.ntmps86
 go_wp2_with fail
 have R0:=zX (Duo.new (w:=w) (T:=34) (a0:=.int .i64 x) (a1:=.bool s) (b0:=.int .i64 0) (b1:=.bool false) (Below.refl _ _))
 generalize (w.alloc (.cells #[.int .i64 x,.bool s] 34)).alloc (.cells #[.int .i64 0,.bool false] 34)=w0 at *
 refine (qaz x s w0 h).mono ?_
 rintro e w1 ⟨rfl,k1⟩
 have R1:=zX ((uX R0).step k1)
 clear k1 R0
 obtain⟨x0,x1⟩:=(uX R1).A.at2
 go_wp2_with fail
 refine (qa6 x s w1).mono ?_
 rintro e w2 ⟨rfl,k2⟩
 have R2:=zX ((uX R1).step k2)
 clear k2 R1 x0 x1
 have R3:=zX ((uX R2).more (T:=34) (u:=.int .i64 (pb x)) (v:=.bool (ps x s)))
 obtain⟨x0,x1⟩:=(uX R2).A.at2
 have lx:=(uX R2).A.1
 have lB:=(uX R2).B.1
 go_wp2_with fail
 clear x0 x1 lx R2
 have hpt:w2.heap.size≠w.heap.size+1:=by have:=lB;omega
 generalize w2.alloc (.cells #[.int .i64 (pb x),.bool (ps x s)] 34)=w3 at *
 generalize w2.heap.size=pt at *
 refine (qa5 a x s (pb x) (ps x s) w3 h hX ha).mono ?_
 rintro e w4 ⟨rfl,k4⟩
 have R:=zX ((uX R3).1.step k4)
 have T:=zX ((uX R3).2.step k4)
 clear k4 R3
 obtain⟨t0,t1⟩:=(uX T).at2
 go_wp2_with fail
 refine zU (fun W=>W.cell? ⟨pt,0,none⟩=some (.int .i64 (pb x))∧W.cell? ⟨pt,1,none⟩=some (.bool (ps x s))) (by kernel_rfl) ?_
 refine qR 0 3 5 ?_
 simp only[zTD]
 repeat (refine zS (fun K hK=>?_);go_simp;first|(refine zQ ?_ (fun W hW=>?_) (hK _ ?_);rotate_left;(obtain⟨c1,c2⟩:=hW;go_simp;first|done|rfl);clear hK K)|(refine hK _ ?_;clear hK K))
 refine zO ?_
 refine qR 4 1 4 ?_
 simp only[zTD]
 repeat (refine zS (fun K hK=>?_);go_simp;first|(refine zQ ?_ (fun W hW=>?_) (hK _ ?_);rotate_left;(obtain⟨c1,c2⟩:=hW;go_simp;first|done|rfl);clear hK K)|(refine hK _ ?_;clear hK K))
 refine zO ?_
 refine qO 3 3 ⟨t0,t1⟩ ?_
 simp only[zTD]
 go_wp2_with fail
 refine (uX CU _).mono ?_
 rintro e w5 ⟨rfl,k5⟩
 have k5':Below w4.heap.size w4 w5:=bT (Below.refl _ _).drew k5
 have R':=zX ((uX R).step k5')
 have T':=zX ((uX T).step k5')
 clear R T k5 k5' t0 t1
 have R:=R'
 have T:=T'
 clear R' T'
 obtain⟨t0,t1⟩:=(uX T).at2
 obtain⟨r0,r1⟩:=(uX R).B.at2
 have rf:=(uX R).B.2.2
 have p0:=(uX R).B.put0
 have p1:=(uX R).B.put1
 go_wp2_with fail
 first|refine zN ?_|refine zG ?_
 refine qO 5 2 ⟨t0,t1⟩ ?_
 simp only[zTD]
 go_wp2_with fail
 first|refine zN ?_|refine zG ?_
 refine qO 6 1 ⟨t0,t1⟩ ?_
 simp only[zTD]
 go_wp2_with fail
 first|refine zN ?_|refine zG ?_
 obtain⟨y0,y1⟩:=(((uX T).other (b':=w.heap.size+1) (j:=0) (u:=.int .i64 (pb x)) hpt).other (b':=w.heap.size+1) (j:=1) (u:=.bool (ps x s)) hpt).at2
 refine qO 7 0 ⟨y0,y1⟩ ?_
 simp only[zTD]
 go_wp2_with fail
 first|refine zN ?_|refine zG ?_
 refine zE (by kernel_rfl) ⟨y0,y1⟩ ?_
 go_wp2_with fail
 exact bodyPost_ret (v:=.tuple #[.int .u64 (cut (pb x) (-conv a x s (pb x))),.agg #[.int .i64 (pb x),.bool (ps x s)],.int .i64 0]) (by simp[results,Tryz.results86,go_sem,p0,p1]) rfl ⟨rfl,zY (uX R).bel (by omega) _ _⟩
theorem unary_not (a x:Int)(s:Bool)(w:World)(h:IsW x)(ha:U a):Calls Tryz.prog 86 #[.int .i64 7,.int .u64 a,.agg #[.int .i64 x,.bool s]] w fun e w'=>e=.returned (.tuple #[.int .u64 (cut (pb x) (-conv a x s (pb x) - 1)),.agg #[.int .i64 (pb x),.bool (ps x s)],.int .i64 0])∧Below w.heap.size w w':=by
 have hX:=isW_p h
 have CU:=zX (fun (w:World)=>tcut_any (bits .xor .u64 IntKind.u64.max (conv a x s (pb x))) (pb x) (ps x s) w hX (u_not (qas hX)))
 rw[cut_not hX (qas hX)] at CU
 go_enter Tryz.func86,Tryz.ntmps86
 go_wp2_with fail
 have R0:=zX (Duo.new (w:=w) (T:=34) (a0:=.int .i64 x) (a1:=.bool s) (b0:=.int .i64 0) (b1:=.bool false) (Below.refl _ _))
 generalize (w.alloc (.cells #[.int .i64 x,.bool s] 34)).alloc (.cells #[.int .i64 0,.bool false] 34)=w0 at *
 refine (qaz x s w0 h).mono ?_
 rintro e w1 ⟨rfl,k1⟩
 have R1:=zX ((uX R0).step k1)
 clear k1 R0
 obtain⟨x0,x1⟩:=(uX R1).A.at2
 go_wp2_with fail
 refine (qa6 x s w1).mono ?_
 rintro e w2 ⟨rfl,k2⟩
 have R2:=zX ((uX R1).step k2)
 clear k2 R1 x0 x1
 have R3:=zX ((uX R2).more (T:=34) (u:=.int .i64 (pb x)) (v:=.bool (ps x s)))
 obtain⟨x0,x1⟩:=(uX R2).A.at2
 have lx:=(uX R2).A.1
 have lB:=(uX R2).B.1
 go_wp2_with fail
 clear x0 x1 lx R2
 have hpt:w2.heap.size≠w.heap.size+1:=by have:=lB;omega
 generalize w2.alloc (.cells #[.int .i64 (pb x),.bool (ps x s)] 34)=w3 at *
 generalize w2.heap.size=pt at *
 refine (qa5 a x s (pb x) (ps x s) w3 h hX ha).mono ?_
 rintro e w4 ⟨rfl,k4⟩
 have R:=zX ((uX R3).1.step k4)
 have T:=zX ((uX R3).2.step k4)
 clear k4 R3
 obtain⟨t0,t1⟩:=(uX T).at2
 go_wp2_with fail
 refine zU (fun W=>W.cell? ⟨pt,0,none⟩=some (.int .i64 (pb x))∧W.cell? ⟨pt,1,none⟩=some (.bool (ps x s))) (by kernel_rfl) ?_
 refine qR 0 3 5 ?_
 simp only[zTD]
 repeat (refine zS (fun K hK=>?_);go_simp;first|(refine zQ ?_ (fun W hW=>?_) (hK _ ?_);rotate_left;(obtain⟨c1,c2⟩:=hW;go_simp;first|done|rfl);clear hK K)|(refine hK _ ?_;clear hK K))
 refine zO ?_
 refine qR 4 1 4 ?_
 simp only[zTD]
 repeat (refine zS (fun K hK=>?_);go_simp;first|(refine zQ ?_ (fun W hW=>?_) (hK _ ?_);rotate_left;(obtain⟨c1,c2⟩:=hW;go_simp;first|done|rfl);clear hK K)|(refine hK _ ?_;clear hK K))
 refine zO ?_
 refine qO 3 3 ⟨t0,t1⟩ ?_
 simp only[zTD]
 go_wp2_with fail
 refine (uX CU _).mono ?_
 rintro e w5 ⟨rfl,k5⟩
 have k5':Below w4.heap.size w4 w5:=bT (Below.refl _ _).drew k5
 have R':=zX ((uX R).step k5')
 have T':=zX ((uX T).step k5')
 clear R T k5 k5' t0 t1
 have R:=R'
 have T:=T'
 clear R' T'
 obtain⟨t0,t1⟩:=(uX T).at2
 obtain⟨r0,r1⟩:=(uX R).B.at2
 have rf:=(uX R).B.2.2
 have p0:=(uX R).B.put0
 have p1:=(uX R).B.put1
 go_wp2_with fail
 first|refine zN ?_|refine zG ?_
 refine qO 5 2 ⟨t0,t1⟩ ?_
 simp only[zTD]
 go_wp2_with fail
 first|refine zN ?_|refine zG ?_
 refine qO 6 1 ⟨t0,t1⟩ ?_
 simp only[zTD]
 go_wp2_with fail
 first|refine zN ?_|refine zG ?_
 obtain⟨y0,y1⟩:=(((uX T).other (b':=w.heap.size+1) (j:=0) (u:=.int .i64 (pb x)) hpt).other (b':=w.heap.size+1) (j:=1) (u:=.bool (ps x s)) hpt).at2
 refine qO 7 0 ⟨y0,y1⟩ ?_
 simp only[zTD]
 go_wp2_with fail
 first|refine zN ?_|refine zG ?_
 refine zE (by kernel_rfl) ⟨y0,y1⟩ ?_
 go_wp2_with fail
 exact bodyPost_ret (v:=.tuple #[.int .u64 (cut (pb x) (-conv a x s (pb x) - 1)),.agg #[.int .i64 (pb x),.bool (ps x s)],.int .i64 0]) (by simp[results,Tryz.results86,go_sem,p0,p1]) rfl ⟨rfl,zY (uX R).bel (by omega) _ _⟩
theorem u_bits9 (op:BinOp)(a b:Int):U (bits op .u64 a b):=by
 have h:=bits_within op .u64 a b
 have h1:IntKind.u64.min=0:=rfl
 have h2:IntKind.u64.max=18446744073709551615:=rfl
 unfold U
 omega
theorem u_09:U 0:=⟨by decide,by decide⟩
theorem u_b19 (c:Bool):U (b1 c):=by cases c <;> exact⟨by decide,by decide⟩
theorem u_wrk9 {k n:Int}(s:Bool)(a b:Int)(hn:IsW n):U (wrk k s n a b).1:=by
 unfold wrk
 repeat' split
 all_goals first|exact u_cut hn _|exact u_09|(dsimp only;exact u_bits9 _ _ _)
theorem u_shf9 {k n:Int}(s:Bool)(a m:Int)(hn:IsW n):U (shf k s n a m):=by
 unfold shf
 split <;> exact u_cut hn _
theorem isW_169:IsW 16:=.inr (.inl rfl)
theorem isW_rb9 {k a b:Int}(ha:IsW a)(hb:IsW b):IsW (rb k a b):=by
 unfold rb
 repeat' split
 ·exact isW_p ha
 ·exact isW_169
 ·exact isW_c ha hb
theorem binP_w {k a b x:Int}{s:Bool}{y:Int}{t:Bool}(h:k≠14∧k≠15∧¬ (16≤k∧k≤21)):binP k a b x s y t=wrk k (cs x s y t) (cb x y) (conv a x s (cb x y)) (conv b y t (cb x y)):=by
 unfold binP
 rw[if_neg (by omega),if_neg (by omega)]
theorem binP_s {k a b x:Int}{s:Bool}{y:Int}{t:Bool}(h:k=14∨k=15):binP k a b x s y t=(shf k (ps x s) (pb x) (conv a x s (pb x)) (conv b y t 16),0):=if_pos h
theorem binP_c {k a b x:Int}{s:Bool}{y:Int}{t:Bool}(h:16≤k∧k≤21):binP k a b x s y t=(b1 (hld k (cs x s y t) (cb x y) (conv a x s (cb x y)) (conv b y t (cb x y))),0):=by
 unfold binP
 rw[if_neg (by omega),if_pos h]
def WdP (k a b x:Int)(s:Bool)(y:Int)(t:Bool)(r:Int × Int):Prop:=(∀ w:World,Calls Tryz.prog 88 #[.int .i64 k,.int .u64 a,.int .u64 b,.agg #[.int .i64 x,.bool s],.agg #[.int .i64 y,.bool t]] w fun e w'=>e=.returned (.tuple #[.int .u64 r.1,.int .i64 r.2])∧Below w.heap.size w w')∧U r.1
theorem wdP (k a b x:Int)(s:Bool)(y:Int)(t:Bool)(lo:9≤k)(hi:k≤24)(hx:IsW x)(hy:IsW y)(ha:U a)(hb:U b):WdP k a b x s y t (binP k a b x s y t):=by
 by_cases h1:k=14∨k=15
 ·rw[binP_s h1]
  exact⟨fun w=>binary_shift k a b x y s t w h1 hx hy ha hb,u_shf9 (n:=pb x) (ps x s) (conv a x s (pb x)) (conv b y t 16) (isW_p hx)⟩
 by_cases h2:16≤k∧k≤21
 ·rw[binP_c h2]
  exact⟨fun w=>qa1 k a b x y s t w h2 hx hy ha hb,u_b19 _⟩
 ·rw[binP_w (by omega)]
  exact⟨fun w=>qap k a b x y s t w (by unfold wkB;omega) hx hy ha hb,u_wrk9 _ _ _ (isW_c hx hy)⟩
def WdQ (k a x:Int)(s:Bool)(r:Int × Int × Bool):Prop:=(∀ w:World,Calls Tryz.prog 86 #[.int .i64 k,.int .u64 a,.agg #[.int .i64 x,.bool s]] w fun e w'=>e=.returned (.tuple #[.int .u64 r.1,.agg #[.int .i64 r.2.1,.bool r.2.2],.int .i64 0])∧Below w.heap.size w w')∧U r.1∧IsW r.2.1
theorem wdQ (k a x:Int)(s:Bool)(hk:k=6∨k=7∨k=8)(hx:IsW x)(ha:U a):WdQ k a x s (unP k a x s):=by
 rcases hk with rfl|rfl|rfl
 ·rw[show unP 6 a x s=(cut (pb x) (-conv a x s (pb x)),pb x,ps x s) from if_pos rfl]
  exact⟨fun w=>unary_neg a x s w hx ha,u_cut (isW_p hx) _,isW_p hx⟩
 ·rw[show unP 7 a x s=(cut (pb x) (-conv a x s (pb x) - 1),pb x,ps x s) from by unfold unP;rw[if_neg (by decide),if_pos rfl]]
  exact⟨fun w=>unary_not a x s w hx ha,u_cut (isW_p hx) _,isW_p hx⟩
 ·rw[show unP 8 a x s=(b1 (conv a x s (pb x)==0),16,true) from by unfold unP;rw[if_neg (by decide),if_neg (by decide)]]
  exact⟨fun w=>unary_log a x s w hx ha,u_b19 _,isW_169⟩
def WfC (x:Ex)(R:Int × Int × Bool × Int):Prop :=
 (∃ V b s,WkC x V b s R.2.2.2∧(R.2.2.2=0→V=R.1∧b=R.2.1∧s=R.2.2.1))∧(R.2.2.2=0→U R.1∧IsW R.2.1)
theorem wf_un (x x0:Ex)(V b:Int)(s:Bool)(lo:5≤x.k)(hi:x.k≤8)(cast:x.k=5→IsW x.b)(hk:x.kids=[x0])(h1:WkC x0 V b s 0)(hU:U V)(hW:IsW b):WfC x (cnO x.k x.b x.s [(V,b,s)]):=by
 by_cases hc:x.k=5
 ·rw[show cnO x.k x.b x.s [(V,b,s)]=(conv V b s x.b,x.b,x.s,0) from if_pos hc]
  exact⟨⟨_,_,_,wk_one x x0 _ _ _ _ _ _ lo hk h1 (fun ka kl kc w=>by rw[hc];exact wone_cast _ _ _ _ _ _ _ _ _ _ _ (fun w=>qa5 V b s x.b x.s w hW (cast hc) hU) w),fun _=>⟨rfl,rfl,rfl⟩⟩,fun _=>⟨u_cut (cast hc) _,cast hc⟩⟩
 ·obtain⟨q1,q3,q4⟩:=wdQ x.k V b s (by omega) hW hU
  rw[show cnO x.k x.b x.s [(V,b,s)]=((unP x.k V b s).1,(unP x.k V b s).2.1,(unP x.k V b s).2.2,0) from if_neg hc]
  generalize unP x.k V b s=r at *
  exact⟨⟨_,_,_,wk_one x x0 _ _ _ _ _ _ lo hk h1 (fun ka kl kc w=>wone_un _ _ _ _ _ _ _ _ _ _ _ _ _ _ (zBq hc) q1 w),fun _=>⟨rfl,rfl,rfl⟩⟩,fun _=>⟨q3,q4⟩⟩
theorem wf_two (x x0 x1:Ex)(V b V1 b1:Int)(s s1:Bool)(lo:9≤x.k)(hi:x.k≤26)(hk:x.kids=[x0,x1])(h1:WkC x0 V b s 0)(hU:U V)(hW:IsW b)(g1:WkC x1 V1 b1 s1 0)(gU:U V1)(gW:IsW b1):WfC x (cnO x.k x.b x.s [(V,b,s),(V1,b1,s1)]):=by
 by_cases h25:x.k=25
 ·rw[show cnO x.k x.b x.s [(V,b,s),(V1,b1,s1)]=((if ((V != 0)&&(V1 != 0))=true then 1 else 0),16,true,0) from if_pos h25]
  exact⟨⟨_,_,_,wk_two x x0 x1 _ _ _ _ _ _ 0 _ _ _ (by omega) hk h1 g1 (fun w=>by rw[h25];exact wtwo_land V b V1 b1 s s1 _ _ rfl rfl w),fun _=>⟨rfl,rfl,rfl⟩⟩,fun _=>⟨by split;exact⟨by decide,by decide⟩;exact u_09,isW_169⟩⟩
 ·by_cases h26:x.k=26
  ·rw[show cnO x.k x.b x.s [(V,b,s),(V1,b1,s1)]=((if ((V != 0) || (V1 != 0))=true then 1 else 0),16,true,0) from (if_neg h25).trans (if_pos h26)]
   exact⟨⟨_,_,_,wk_two x x0 x1 _ _ _ _ _ _ 0 _ _ _ (by omega) hk h1 g1 (fun w=>by rw[h26];exact wtwo_lor V b V1 b1 s s1 _ _ rfl rfl w),fun _=>⟨rfl,rfl,rfl⟩⟩,fun _=>⟨by split;exact⟨by decide,by decide⟩;exact u_09,isW_169⟩⟩
  ·have n25:(x.k==25)=false:=zBq h25
   have n26:(x.k==26)=false:=zBq h26
   obtain⟨q1,q3⟩:=wdP x.k V V1 b s b1 s1 lo (by omega) hW gW hU gU
   rw[show cnO x.k x.b x.s [(V,b,s),(V1,b1,s1)]=((binP x.k V V1 b s b1 s1).1,rb x.k b b1,rs x.k b s b1 s1,(binP x.k V V1 b s b1 s1).2) from (if_neg h25).trans (if_neg h26)]
   generalize binP x.k V V1 b s b1 s1=r at *
   obtain⟨A,E⟩:=r
   by_cases he:E=0
   ·subst he
    exact⟨⟨_,_,_,wk_two x x0 x1 _ _ _ _ _ _ 0 _ _ _ (by omega) hk h1 g1 (fun w=>wtwo_ok x.k _ _ _ _ _ _ _ _ _ n25 n26 q1 (fun w=>result_any x.k b s b1 s1 w) w),fun _=>⟨rfl,rfl,rfl⟩⟩,fun _=>⟨q3,isW_rb9 hW gW⟩⟩
   ·exact⟨⟨_,_,_,wk_two x x0 x1 _ _ _ _ _ _ E _ _ _ (by omega) hk h1 g1 (fun w=>wtwo_bad x.k _ _ _ _ _ _ _ _ n25 n26 he q1 w),fun h=>absurd h he⟩,fun h=>absurd h he⟩
theorem cnE_num (x:Ex)(h:x.k=1):cnE x=(x.n,x.b,x.s,0):=by
 obtain⟨k,n,b,s,nm,kids⟩:=x
 rw[cnE]
 exact if_pos h
theorem cnE_no (x:Ex)(h:x.k=2∨x.k=3∨x.k=4):cnE x=(0,0,false,8):=by
 obtain⟨k,n,b,s,nm,kids⟩:=x
 have h:k=2∨k=3∨k=4:=h
 rw[cnE,if_neg (by omega),if_pos h]
theorem cnE_kids (x:Ex)(h:5≤x.k):cnE x=if (cnEs x.kids).2≠0 then (0,0,false,(cnEs x.kids).2) else cnO x.k x.b x.s (cnEs x.kids).1:=by
 obtain⟨k,n,b,s,nm,kids⟩:=x
 have h:5≤k:=h
 rw[cnE,if_neg (by omega),if_neg (by omega)]
 rfl
theorem cnEs_cons (x:Ex)(xs:List Ex):cnEs (x::xs)=if (cnE x).2.2.2≠0 then ([],(cnE x).2.2.2) else if (cnEs xs).2≠0 then ([],(cnEs xs).2) else (((cnE x).1,(cnE x).2.1,(cnE x).2.2.1)::(cnEs xs).1,0):=by rw[cnEs]
theorem cnEs_nil:cnEs []=([],0):=by rw[cnEs]
theorem wfC:∀ x:Ex,TvE x→NmE x→WfC x (cnE x):=by
 apply Ex.ind
 intro x IH ht hn
 obtain⟨_,lo,hi,kl,kh,num,cast,kt⟩:=ht
 obtain⟨_,hf,kn⟩:=hn
 by_cases h1:x.k=1
 ·rw[cnE_num x h1]
  exact⟨⟨_,_,_,wk_num x h1,fun _=>⟨rfl,rfl,rfl⟩⟩,fun _=>⟨hf.1,num h1⟩⟩
 by_cases h4:x.k=2∨x.k=3∨x.k=4
 ·rw[cnE_no x h4]
  exact⟨⟨_,_,_,wk_no x h4,fun h=>by cases h⟩,fun h=>by cases h⟩
 have h5:5≤x.k:=by omega
 rw[cnE_kids x h5]
 by_cases h8:x.k≤8
 ·have hlen:x.kids.length=1:=by
   unfold kidLo at kl
   unfold kidHi at kh
   rw[if_neg (by omega),if_pos (by omega)] at kl
   rw[if_neg (by omega),if_neg (by omega),if_pos (by omega)] at kh
   omega
  obtain⟨x0,hk⟩:=one_of hlen
  have m0:x0∈x.kids:=by rw[hk];simp
  obtain⟨⟨V',b',s',g1,e1⟩,g3⟩:=IH x0 m0 (kt x0 m0) (kn x0 m0)
  rw[hk,cnEs_cons,cnEs_nil]
  generalize cnE x0=R0 at *
  obtain⟨RV,Rb,Rs,er⟩:=R0
  dsimp only at *
  by_cases he:er=0
  ·subst he
   obtain⟨rfl,rfl,rfl⟩:=e1 rfl
   obtain⟨hU,hW⟩:=g3 rfl
   simpa using wf_un x x0 _ _ _ h5 h8 cast hk g1 hU hW
  ·simp only[ne_eq,he,not_false_eq_true,if_true]
   exact⟨⟨_,_,_,wk_bad0 x x0 [] _ _ er _ h5 hk g1 he,fun h=>absurd h he⟩,fun h=>absurd h he⟩
 ·have hlen:x.kids.length=2:=by
   unfold kidLo at kl
   unfold kidHi at kh
   rw[if_neg (by omega),if_neg (by omega)] at kl
   rw[if_neg (by omega),if_neg (by omega),if_neg (by omega)] at kh
   omega
  obtain⟨x0,x1,hk⟩:=two_of hlen
  have m0:x0∈x.kids:=by rw[hk];simp
  have m1:x1∈x.kids:=by rw[hk];simp
  obtain⟨⟨V',b',s',g1,e1⟩,g3⟩:=IH x0 m0 (kt x0 m0) (kn x0 m0)
  obtain⟨⟨V1',b1',s1',f1,d1⟩,f3⟩:=IH x1 m1 (kt x1 m1) (kn x1 m1)
  rw[hk,cnEs_cons,cnEs_cons,cnEs_nil]
  generalize cnE x0=R0 at *
  generalize cnE x1=R1 at *
  obtain⟨RV,Rb,Rs,er⟩:=R0
  obtain⟨SV,Sb,Ss,es⟩:=R1
  dsimp only at *
  by_cases he:er=0
  ·subst he
   obtain⟨rfl,rfl,rfl⟩:=e1 rfl
   obtain⟨hU,hW⟩:=g3 rfl
   by_cases he:es=0
   ·subst he
    obtain⟨rfl,rfl,rfl⟩:=d1 rfl
    obtain⟨fU,fW⟩:=f3 rfl
    simpa using wf_two x x0 x1 _ _ _ _ _ _ (by omega) hi hk g1 hU hW f1 fU fW
   ·simp only[ne_eq,he,not_true_eq_false,not_false_eq_true,if_true,if_false]
    exact⟨⟨_,_,_,wk_bad1 x x0 x1 _ _ _ _ es _ _ h5 hk g1 f1 he,fun h=>absurd h he⟩,fun h=>absurd h he⟩
  ·simp only[ne_eq,he,not_false_eq_true,if_true]
   exact⟨⟨_,_,_,wk_bad0 x x0 [x1] _ _ er _ h5 hk g1 he,fun h=>absurd h he⟩,fun h=>absurd h he⟩
theorem BoxC.grown {w w':World}{b fb n:Nat}{cs:Array Value}{T:TypeId}{q:ByteArray→Option Value}(h:BoxC w b cs T)(hM:Mv w fb n q)(g:w.grownBy w' (some fb)):BoxC w' b cs T:=by
 refine⟨(g.block b h.lt (fun e=>?_)).trans h.1,h.2⟩
 injection e with e
 subst e
 obtain⟨es,c,h1⟩:=hM.at
 rw[h.1] at h1
 cases h1
theorem addF_no {H:Nat}{w0 w:World}{nb vb fb nv nf:Nat}{E:Nev}{wd:Int}(h:Ng H w0 w nb vb fb nv nf E wd)(f:Fn8)(pa sa:Option Addr)(pc sc:Nat)(hn:f.nm.size≤maxLen)(ht:E.taken f.nm=true) :
  Calls Tryz.prog 12 #[.pointer (some ⟨nb,0,none⟩),.agg #[.string f.nm,.int .i64 f.b,.bool f.s,.slice pa f.params.length pc,.slice sa f.body.length sc]] w fun e w'=>e=.returned (.int .i64 7)∧Below H w0 w':=by
 have ka:=qaa w (.cells #[.string f.nm,.int .i64 f.b,.bool f.s,.slice pa f.params.length pc,.slice sa f.body.length sc] 41)
 have S:=zH (h.step ka)
 have CT:=taken_any (h.step ka) f.nm hn
 rw[ht] at CT
 have CT:=zH CT
 have hle:=zH h.le
 clear h ka ht
 go_enter Tryz.func12,Tryz.ntmps12
 go_wp2_with fail
 refine (uI CT).mono ?_
 rintro e w1 ⟨rfl,k1⟩
 have K:=zH ((uI S).step k1).k
 clear CT S k1
 go_wp2_with fail
 go_ret
 exact⟨rfl,uI K⟩
theorem addF_yes {H:Nat}{w0 w:World}{nb vb fb nv nf:Nat}{E:Nev}{wd:Int}(h:Ng H w0 w nb vb fb nv nf E wd)(f:Fn8)(pa sa:Option Addr)(pc sc:Nat)(hn:f.nm.size≤maxLen)(hl:nf<maxLen)(ht:E.taken f.nm=false) :
  Calls Tryz.prog 12 #[.pointer (some ⟨nb,0,none⟩),.agg #[.string f.nm,.int .i64 f.b,.bool f.s,.slice pa f.params.length pc,.slice sa f.body.length sc]] w fun e w'=>e=.returned (.int .i64 0)∧Ng H w0 w' nb vb fb nv (nf+1) (E.addF f) wd:=by
 have ka:=qaa w (.cells #[.string f.nm,.int .i64 f.b,.bool f.s,.slice pa f.params.length pc,.slice sa f.body.length sc] 41)
 have S:=zH (h.step ka)
 have BX:=zH (BoxC.new w #[.string f.nm,.int .i64 f.b,.bool f.s,.slice pa f.params.length pc,.slice sa f.body.length sc] 41 (by decide))
 have CT:=taken_any (h.step ka) f.nm hn
 rw[ht] at CT
 have CT:=zH CT
 clear h ka ht
 go_enter Tryz.func12,Tryz.ntmps12
 go_wp2_with fail
 refine (uI CT).mono ?_
 rintro e w1 ⟨rfl,k1⟩
 have S1:=zH ((uI S).step k1)
 have BX1:=zH ((uI BX).step k1)
 clear CT S k1 BX
 go_wp2_with fail
 have S2:=zH ((uI S1).step (Below.refl _ _).drew)
 have BX2:=zH ((uI BX1).step (Below.refl _ _).drew)
 have hsb:=(uI S1).bx.lt
 clear S1 BX1
 obtain⟨q,hq1,hq2⟩:=(uI S2).f
 have a1:=zC (uI S2).bx 1 _ rfl
 obtain⟨c0,c1,c2,c3,c4⟩:=qat (uI BX2).box
 refine zU (fun W=>W.cell? ⟨nb,1,none⟩=some (.map (some fb))∧W.cell? ⟨w.heap.size,0,none⟩=some (.string f.nm)∧W.cell? ⟨w.heap.size,1,none⟩=some (.int .i64 f.b)∧W.cell? ⟨w.heap.size,2,none⟩=some (.bool f.s)∧W.cell? ⟨w.heap.size,3,none⟩=some (.slice pa f.params.length pc)∧W.cell? ⟨w.heap.size,4,none⟩=some (.slice sa f.body.length sc)) (by kernel_rfl) ?_
 generalize w1.drew=W8 at *
 have CL:=zH (show W8.cell? ⟨nb,1,none⟩=some (.map (some fb))∧W8.cell? ⟨w.heap.size,0,none⟩=some (.string f.nm)∧W8.cell? ⟨w.heap.size,1,none⟩=some (.int .i64 f.b)∧W8.cell? ⟨w.heap.size,2,none⟩=some (.bool f.s)∧W8.cell? ⟨w.heap.size,3,none⟩=some (.slice pa f.params.length pc)∧W8.cell? ⟨w.heap.size,4,none⟩=some (.slice sa f.body.length sc) from⟨a1,c0,c1,c2,c3,c4⟩)
 have HQ1:=zH hq1
 have HQ2:=zH hq2
 clear hq1 hq2
 clear a1 c0 c1 c2 c3 c4
 refine qR 0 7 1 ?_
 simp only[zTD]
 repeat (refine zS (fun K hK=>?_);go_simp;first|(refine zQ ?_ (fun W hW=>?_) (hK _ ?_);rotate_left;(obtain⟨d0,d1,d2,d3,d4,d5⟩:=hW;go_simp;first|done|rfl);clear hK K)|(refine hK _ ?_;clear hK K))
 refine zO ?_
 refine qO 7 0 (uI CL) ?_
 simp only[zTD]
 go_wp2_with (at_mapUpdate;refine wpList_putVv rfl (.tmp 12) (.tmp 14) (.tmp 15) 45 41 rfl Tryz.underlying45 fb nf _ rfl (uI HQ1) hl f.nm rfl hn (.agg #[.string f.nm,.int .i64 f.b,.bool f.s,.slice pa f.params.length pc,.slice sa f.body.length sc]) rfl ?_;intro w9 m9 g9;have S9:=zH ((uI S2).addF (uI HQ2) m9 g9);have B9:=zH ((uI BX2).grown (uI HQ1) g9);clear m9 g9)
 first|refine zN ?_|refine zG ?_
 have b1:=zC (uI S9).bx 1 _ rfl
 obtain⟨e0,e1,e2,e3,e4⟩:=qat (uI B9).box
 refine zE (by kernel_rfl) ⟨b1,e0,e1,e2,e3,e4⟩ ?_
 clear b1 e0 e1 e2 e3 e4
 go_wp2_with fail
 go_ret
 exact⟨rfl,uI S9⟩
end Go.Proofs.YtjpnnmkefaodoaaGreat
