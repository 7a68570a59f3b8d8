/-
  CcF.
-/
import Derived.Test.YtjpnnmkefaodoaaGreatyCcPy
import Derived.StillTailTactics
set_option maxHeartbeats 8000000
set_option maxRecDepth 100000
namespace Go.Proofs.YtjpnnmkefaodoaaGreat
open Go.RowKit
set_option linter.unusedSimpArgs false
set_option linter.unusedVariables false
def RcC (x:Ex)(V b:Int)(s:Bool)(er:Int):Prop:=∀ (B:Nat) (kv:Value) (w:World),ExL B w kv x.kids→B≤w.heap.size →
 Calls Tryz.prog 18 #[.agg #[.int .i64 x.k,.int .u64 x.n,.int .i64 x.b,.bool x.s,.string x.nm,kv]] w fun e w'=>e=.returned (.tuple #[.int .u64 V,.agg #[.int .i64 b,.bool s],.int .i64 er])∧Below w.heap.size w w'
theorem qa2 (w:World):Calls Tryz.prog 40 #[] w fun e w'=>e=.returned (.agg #[.int .i64 16,.bool true])∧Below w.heap.size w w':=by
 go_enter Tryz.func40,Tryz.ntmps40
 go_wp2
 exact bodyPost_ret (v:=.agg #[.int .i64 16,.bool true]) (by simp[results,Tryz.results40,go_sem]) rfl ⟨rfl,(by repeat (first|exact (Below.refl _ _)|refine Below.setCell ?_ (by first|exact Nat.le_refl _|(simp;done)|omega|(simp;omega)) _|refine Below.alloc ?_ (by first|(simp;done)|omega|(simp;omega)) _))⟩
theorem rc_no (x:Ex)(hk:x.k=2∨x.k=3∨x.k=4):RcC x 0 0 false 8:=by
 intro B kv w hx hB
 obtain⟨ka,kc,rfl⟩:∃ ao cap,kv=.slice ao x.kids.length cap:=by obtain⟨ao,cap,e,-⟩:=hx.at;exact⟨ao,cap,e⟩
 have S0:=zH (Tv.begin #[.int .i64 0,.bool false] 57 34 hx hB)
 obtain⟨a0,a1,a2,a3,a4,a5⟩:=(uI S0).A.six8
 have e1:(x.k==1)=false:=zBq (by omega)
 have e4:x.k≤4:=by omega
 clear hk
 have hsA:=(uI S0).A.1
 obtain⟨z0,z1⟩:=(uI S0).R.at2
 have zf:=(uI S0).R.2.2
 have zl:=(uI S0).R.1
 have HBB:=zH hB
 clear hx hB
 generalize hW0:(w.alloc (.cells #[.int .i64 x.k,.int .u64 x.n,.int .i64 x.b,.bool x.s,.string x.nm,.slice ka x.kids.length kc] 57)).alloc (.cells #[.int .i64 0,.bool false] 34)=W0 at *
 go_enter Tryz.func18,Tryz.ntmps18
 go_wp2_with fail
 obtain⟨p0,p1⟩:=((uI S0).R.two9 (.int .i64 0) (.bool false)).at2
 exact bodyPost_ret (v:=.tuple #[.int .u64 0,.agg #[.int .i64 0,.bool false],.int .i64 8]) (by simp[results,Tryz.results18,go_sem,p0,p1]) rfl ⟨rfl,zY (uI S0).d (by omega) _ _⟩
theorem rc_num (x:Ex)(hk:x.k=1):RcC x x.n x.b x.s 0:=by
 intro B kv w hx hB
 obtain⟨ka,kc,rfl⟩:∃ ao cap,kv=.slice ao x.kids.length cap:=by obtain⟨ao,cap,e,-⟩:=hx.at;exact⟨ao,cap,e⟩
 have S0:=zH (Tv.begin #[.int .i64 0,.bool false] 57 34 hx hB)
 obtain⟨a0,a1,a2,a3,a4,a5⟩:=(uI S0).A.six8
 have e1:(x.k==1)=true:=beq_iff_eq.2 hk
 have HK:=zH hk
 clear hk
 have hsA:=(uI S0).A.1
 obtain⟨z0,z1⟩:=(uI S0).R.at2
 have zf:=(uI S0).R.2.2
 have zl:=(uI S0).R.1
 have HBB:=zH hB
 clear hx hB
 generalize hW0:(w.alloc (.cells #[.int .i64 x.k,.int .u64 x.n,.int .i64 x.b,.bool x.s,.string x.nm,.slice ka x.kids.length kc] 57)).alloc (.cells #[.int .i64 0,.bool false] 34)=W0 at *
 go_enter Tryz.func18,Tryz.ntmps18
 go_wp2_with fail
 refine zU (fun W=>W.cell? ⟨w.heap.size,1,none⟩=some (.int .u64 x.n)∧W.cell? ⟨w.heap.size,2,none⟩=some (.int .i64 x.b)∧W.cell? ⟨w.heap.size,3,none⟩=some (.bool x.s)) (by kernel_rfl) ?_
 have S1:=zH ((uI S0).next (Below.refl _ _).drew)
 clear a0 a1 a2 a3 a4 a5 hsA z0 z1 zf zl S0
 have CL:=zH (fun (W:World) (r:List Value) (s:Tv w W B x ka kc r)=>(⟨s.A.2.1 1 _ rfl,s.A.2.1 2 _ rfl,s.A.2.1 3 _ rfl⟩:W.cell? ⟨w.heap.size,1,none⟩=some (.int .u64 x.n)∧W.cell? ⟨w.heap.size,2,none⟩=some (.int .i64 x.b)∧W.cell? ⟨w.heap.size,3,none⟩=some (.bool x.s)))
 generalize W0.drew=W1 at *
 refine qR 0 4 3 ?_
 simp only[zTD]
 repeat (refine zS (fun K hK=>?_);go_simp;first|(refine zQ ?_ (fun W hW=>?_) (hK _ ?_);rotate_left;(obtain⟨d0,d1,d2⟩:=hW;go_simp;first|done|rfl);clear hK K)|(refine hK _ ?_;clear hK K))
 refine zO ?_
 refine qO 4 2 (uI CL _ _ (uI S1)) ?_
 simp only[zTD]
 go_wp2_with fail
 first|refine zN ?_|refine zG ?_
 obtain⟨z0,z1⟩:=(uI S1).R.at2
 have zf:=(uI S1).R.2.2
 have zl:=(uI S1).R.1
 refine qO 5 1 (uI CL _ _ (uI S1)) ?_
 simp only[zTD]
 go_wp2_with fail
 first|refine zN ?_|refine zG ?_
 have SP:=zH ((uI S1).put9 (uI HBB) (.int .i64 x.b) (.bool x.s))
 obtain⟨p0,p1⟩:=(uI SP).R.at2
 refine qO 6 0 (uI CL _ _ (uI SP)) ?_
 simp only[zTD]
 go_wp2_with fail
 first|refine zN ?_|refine zG ?_
 refine zE (by kernel_rfl) (uI CL _ _ (uI SP)) ?_
 go_wp2_with fail
 exact bodyPost_ret (v:=.tuple #[.int .u64 x.n,.agg #[.int .i64 x.b,.bool x.s],.int .i64 0]) (by simp[results,Tryz.results18,go_sem,p0,p1]) rfl ⟨rfl,(uI SP).d⟩
theorem rc_bad0 (x x0:Ex)(rest:List Ex)(n1 y1 er:Int)(s1:Bool)(hk:5≤x.k)(hkids:x.kids=x0::rest)(IH0:RcC x0 n1 y1 s1 er)(hE:er≠0):RcC x 0 y1 s1 er:=by
 intro B kv w hx hB
 obtain⟨ka,kc,rfl⟩:∃ ao cap,kv=.slice ao x.kids.length cap:=by obtain⟨ao,cap,e,-⟩:=hx.at;exact⟨ao,cap,e⟩
 have S0:=zH (Tv.begin #[.int .i64 0,.bool false] 57 34 hx hB)
 have hl:1≤x.kids.length:=by rw[hkids];simp
 obtain⟨bk,off,kv0,rfl,hbk,hky,c0,c1,c2,c3,c4,c5⟩:=qa4 (uI S0) 0 (by omega)
 have ey0:x.kids[0]'(by omega)=x0:=by simp[hkids]
 rw[ey0] at hky c0 c1 c2 c3 c4
 simp only[Nat.zero_mul,Nat.add_zero] at c0 c1 c2 c3 c4 c5
 have CA:=zH (IH0 _ _ _ hky (uI S0).le)
 obtain⟨a0,a1,a2,a3,a4,a5⟩:=(uI S0).A.six8
 have e1:(x.k==1)=false:=zBq (by omega)
 have e4:¬ x.k≤4:=by omega
 have hE1:(er != 0)=true:=bne_iff_ne.2 hE
 have hE2:(er==0)=false:=zBq hE
 clear hE
 have hl1:(1:Int)≤(x.kids.length:Int):=by omega
 have hl2:0<x.kids.length:=by omega
 clear IH0 ey0 hkids
 have hsA:=(uI S0).A.1
 obtain⟨z0,z1⟩:=(uI S0).R.at2
 have zf:=(uI S0).R.2.2
 have zl:=(uI S0).R.1
 have HBB:=zH hB
 clear hx hB
 generalize hW0:(w.alloc (.cells #[.int .i64 x.k,.int .u64 x.n,.int .i64 x.b,.bool x.s,.string x.nm,.slice (some ⟨bk,off,none⟩) x.kids.length kc] 57)).alloc (.cells #[.int .i64 0,.bool false] 34)=W0 at *
 go_enter Tryz.func18,Tryz.ntmps18
 go_wp2_with fail
 refine (uI CA).mono ?_
 rintro e w1 ⟨rfl,k1⟩
 have S1:=zH ((uI S0).next k1)
 have HNE:=zH (uI S1).R.1
 have kN:=qaa w1 (.cells #[.int .i64 y1,.bool s1] 34)
 have BN:=zH (Box.new w1 #[.int .i64 y1,.bool s1] 34)
 have S2:=zH ((uI S1).next kN)
 clear k1 S0 S1 CA c0 c1 c2 c3 c4 c5 a0 a1 a2 a3 a4 a5 hsA z0 z1 zf zl kN hky hbk
 obtain⟨a0,a1,a2,a3,a4,a5⟩:=(uI S2).A.six8
 have hsA:=(uI S2).A.1
 obtain⟨z0,z1⟩:=(uI S2).R.at2
 have zf:=(uI S2).R.2.2
 have zl:=(uI S2).R.1
 obtain⟨u0,u1⟩:=(uI BN).at2
 have hsN:=(uI BN).1
 generalize hW2:w1.alloc (.cells #[.int .i64 y1,.bool s1] 34)=W2 at *
 go_wp2_with fail
 refine zU (fun W=>W.cell? ⟨w1.heap.size,0,none⟩=some (.int .i64 y1)∧W.cell? ⟨w1.heap.size,1,none⟩=some (.bool s1)) (by kernel_rfl) ?_
 have S9:=zH ((uI S2).next (Below.refl _ _).drew)
 have B9:=zH ((uI BN).step (Below.refl _ _).drew)
 have hne:w1.heap.size≠w.heap.size+1:=by have:=(uI HNE);omega
 clear a0 a1 a2 a3 a4 a5 hsA z0 z1 zf zl S2 BN u0 u1 hsN
 generalize W2.drew=W8 at *
 refine qR 0 2 3 ?_
 simp only[zTD]
 repeat (refine zS (fun K hK=>?_);go_simp;first|(refine zQ ?_ (fun W hW=>?_) (hK _ ?_);rotate_left;(obtain⟨d0,d1⟩:=hW;go_simp;first|done|rfl);clear hK K)|(refine hK _ ?_;clear hK K))
 refine zO ?_
 refine qO 2 2 ((uI B9).at2) ?_
 simp only[zTD]
 go_wp2_with fail
 first|refine zN ?_|refine zG ?_
 obtain⟨z0,z1⟩:=(uI S9).R.at2
 have zf:=(uI S9).R.2.2
 have zl:=(uI S9).R.1
 refine qO 3 1 ((uI B9).at2) ?_
 simp only[zTD]
 go_wp2_with fail
 first|refine zN ?_|refine zG ?_
 have SP:=zH ((uI S9).put9 (uI HBB) (.int .i64 y1) (.bool s1))
 have BP:=zH (((uI B9).other (b':=w.heap.size+1) (j:=0) (u:=.int .i64 y1) hne).other (b':=w.heap.size+1) (j:=1) (u:=.bool s1) hne)
 obtain⟨p0,p1⟩:=(uI SP).R.at2
 refine qO 4 0 ((uI BP).at2) ?_
 simp only[zTD]
 go_wp2_with fail
 first|refine zN ?_|refine zG ?_
 refine zE (by kernel_rfl) ((uI BP).at2) ?_
 go_wp2_with fail
 exact bodyPost_ret (v:=.tuple #[.int .u64 0,.agg #[.int .i64 y1,.bool s1],.int .i64 er]) (by simp[results,Tryz.results18,go_sem,p0,p1]) rfl ⟨rfl,(uI SP).d⟩
theorem rc_un (x x0:Ex)(n1 y1 V b:Int)(s1 s:Bool)(hk:6≤x.k)(hkids:x.kids=[x0])(IH0:RcC x0 n1 y1 s1 0)
  (HU:∀ w:World,Calls Tryz.prog 39 #[.int .i64 x.k,.int .u64 n1,.agg #[.int .i64 y1,.bool s1]] w fun e w'=>e=.returned (.tuple #[.int .u64 V,.agg #[.int .i64 b,.bool s],.int .i64 0])∧Below w.heap.size w w'):RcC x V b s 0:=by
 intro B kv w hx hB
 obtain⟨ka,kc,rfl⟩:∃ ao cap,kv=.slice ao x.kids.length cap:=by obtain⟨ao,cap,e,-⟩:=hx.at;exact⟨ao,cap,e⟩
 have S0:=zH (Tv.begin #[.int .i64 0,.bool false] 57 34 hx hB)
 have hl:1≤x.kids.length:=by rw[hkids];simp
 obtain⟨bk,off,kv0,rfl,hbk,hky,c0,c1,c2,c3,c4,c5⟩:=qa4 (uI S0) 0 (by omega)
 have ey0:x.kids[0]'(by omega)=x0:=by simp[hkids]
 rw[ey0] at hky c0 c1 c2 c3 c4
 simp only[Nat.zero_mul,Nat.add_zero] at c0 c1 c2 c3 c4 c5
 have CA:=zH (IH0 _ _ _ hky (uI S0).le)
 obtain⟨a0,a1,a2,a3,a4,a5⟩:=(uI S0).A.six8
 have e1:(x.k==1)=false:=zBq (by omega)
 have e4:¬ x.k≤4:=by omega
 have e5:(x.k==5)=false:=zBq (by omega)
 have hl1:(1:Int)≤(x.kids.length:Int):=by omega
 have hl2:0<x.kids.length:=by omega
 have hl3:((x.kids.length:Int)==1)=true:=by rw[hkids];rfl
 have hl4:(x.kids.length==1)=true:=by rw[hkids];rfl
 have HU:=zH HU
 clear IH0 ey0 hkids
 have hsA:=(uI S0).A.1
 obtain⟨z0,z1⟩:=(uI S0).R.at2
 have zf:=(uI S0).R.2.2
 have zl:=(uI S0).R.1
 have HBB:=zH hB
 clear hx hB
 generalize hW0:(w.alloc (.cells #[.int .i64 x.k,.int .u64 x.n,.int .i64 x.b,.bool x.s,.string x.nm,.slice (some ⟨bk,off,none⟩) x.kids.length kc] 57)).alloc (.cells #[.int .i64 0,.bool false] 34)=W0 at *
 go_enter Tryz.func18,Tryz.ntmps18
 go_wp2_with fail
 refine (uI CA).mono ?_
 rintro e w1 ⟨rfl,k1⟩
 have S1:=zH ((uI S0).next k1)
 have HNE:=zH (uI S1).R.1
 have kN:=qaa w1 (.cells #[.int .i64 y1,.bool s1] 34)
 have BN:=zH (Box.new w1 #[.int .i64 y1,.bool s1] 34)
 have S2:=zH ((uI S1).next kN)
 clear k1 S0 S1 CA c0 c1 c2 c3 c4 c5 a0 a1 a2 a3 a4 a5 hsA z0 z1 zf zl kN hky hbk
 obtain⟨a0,a1,a2,a3,a4,a5⟩:=(uI S2).A.six8
 have hsA:=(uI S2).A.1
 obtain⟨z0,z1⟩:=(uI S2).R.at2
 have zf:=(uI S2).R.2.2
 have zl:=(uI S2).R.1
 obtain⟨u0,u1⟩:=(uI BN).at2
 have hsN:=(uI BN).1
 generalize hW2:w1.alloc (.cells #[.int .i64 y1,.bool s1] 34)=W2 at *
 go_wp2_with fail
 refine (uI HU _).mono ?_
 rintro e w3 ⟨rfl,k3⟩
 have S3:=zH ((uI S2).next k3)
 clear k3 S2 a0 a1 a2 a3 a4 a5 hsA z0 z1 zf zl HU u0 u1 hsN BN
 obtain⟨z0,z1⟩:=(uI S3).R.at2
 have zf:=(uI S3).R.2.2
 have zl:=(uI S3).R.1
 go_wp2_with fail
 obtain⟨p0,p1⟩:=((uI S3).R.two9 (.int .i64 b) (.bool s)).at2
 exact bodyPost_ret (v:=.tuple #[.int .u64 V,.agg #[.int .i64 b,.bool s],.int .i64 0]) (by simp[results,Tryz.results18,go_sem,p0,p1]) rfl ⟨rfl,zY (uI S3).d (by omega) _ _⟩
theorem rc_bad1 (x x0 x1:Ex)(n1 y1 n2 y2 er:Int)(s1 s2:Bool)(hk:6≤x.k)(hkids:x.kids=[x0,x1])(IH0:RcC x0 n1 y1 s1 0)(IH1:RcC x1 n2 y2 s2 er)(hE:er≠0):RcC x 0 y2 s2 er:=by
 intro B kv w hx hB
 obtain⟨ka,kc,rfl⟩:∃ ao cap,kv=.slice ao x.kids.length cap:=by obtain⟨ao,cap,e,-⟩:=hx.at;exact⟨ao,cap,e⟩
 have S0:=zH (Tv.begin #[.int .i64 0,.bool false] 57 34 hx hB)
 have hl:1≤x.kids.length:=by rw[hkids];simp
 obtain⟨bk,off,kv0,rfl,hbk,hky,c0,c1,c2,c3,c4,c5⟩:=qa4 (uI S0) 0 (by omega)
 have ey0:x.kids[0]'(by omega)=x0:=by simp[hkids]
 rw[ey0] at hky c0 c1 c2 c3 c4
 simp only[Nat.zero_mul,Nat.add_zero] at c0 c1 c2 c3 c4 c5
 have CA:=zH (IH0 _ _ _ hky (uI S0).le)
 obtain⟨a0,a1,a2,a3,a4,a5⟩:=(uI S0).A.six8
 have e1:(x.k==1)=false:=zBq (by omega)
 have e4:¬ x.k≤4:=by omega
 have e5:(x.k==5)=false:=zBq (by omega)
 have hE1:(er != 0)=true:=bne_iff_ne.2 hE
 have hE2:(er==0)=false:=zBq hE
 clear hE
 have hl1:(1:Int)≤(x.kids.length:Int):=by omega
 have hl2:0<x.kids.length:=by omega
 have hl3:((x.kids.length:Int)==1)=false:=by rw[hkids];rfl
 have hl4:(x.kids.length==1)=false:=by rw[hkids];rfl
 have hl5:(2:Int)≤(x.kids.length:Int):=by rw[hkids];simp
 have hl6:1<x.kids.length:=by rw[hkids];simp
 have HKI:=zH hkids
 clear IH0 ey0 hkids
 have hsA:=(uI S0).A.1
 obtain⟨z0,z1⟩:=(uI S0).R.at2
 have zf:=(uI S0).R.2.2
 have zl:=(uI S0).R.1
 have HBB:=zH hB
 clear hx hB
 generalize hW0:(w.alloc (.cells #[.int .i64 x.k,.int .u64 x.n,.int .i64 x.b,.bool x.s,.string x.nm,.slice (some ⟨bk,off,none⟩) x.kids.length kc] 57)).alloc (.cells #[.int .i64 0,.bool false] 34)=W0 at *
 go_enter Tryz.func18,Tryz.ntmps18
 go_wp2_with fail
 refine (uI CA).mono ?_
 rintro e w1 ⟨rfl,k1⟩
 have S1:=zH ((uI S0).next k1)
 have HNE:=zH (uI S1).R.1
 have kN:=qaa w1 (.cells #[.int .i64 y1,.bool s1] 34)
 have BN:=zH (Box.new w1 #[.int .i64 y1,.bool s1] 34)
 have S2:=zH ((uI S1).next kN)
 clear k1 S0 S1 CA c0 c1 c2 c3 c4 c5 a0 a1 a2 a3 a4 a5 hsA z0 z1 zf zl kN hky hbk
 obtain⟨a0,a1,a2,a3,a4,a5⟩:=(uI S2).A.six8
 have hsA:=(uI S2).A.1
 obtain⟨z0,z1⟩:=(uI S2).R.at2
 have zf:=(uI S2).R.2.2
 have zl:=(uI S2).R.1
 obtain⟨u0,u1⟩:=(uI BN).at2
 have hsN:=(uI BN).1
 generalize hW2:w1.alloc (.cells #[.int .i64 y1,.bool s1] 34)=W2 at *
 obtain⟨bk1,off1,kv1,ek1,hbk1,hky1,d0,d1,d2,d3,d4,d5⟩:=qa4 (uI S2) 1 hl6
 have ey1:x.kids[1]'hl6=x1:=by simp[uI HKI]
 rw[ey1] at hky1 d0 d1 d2 d3 d4
 clear ey1
 injection ek1 with ek1
 injection ek1 with ek1 ek2
 subst ek1 ek2
 simp only[Nat.one_mul] at d0 d1 d2 d3 d4 d5
 have CB:=zH (IH1 _ _ _ hky1 (uI S2).le)
 clear IH1
 go_wp2_with fail
 refine (uI CB).mono ?_
 rintro e w3 ⟨rfl,k3⟩
 have S3:=zH ((uI S2).next k3)
 clear HNE
 have HNE:=zH (uI S3).R.1
 have kM:=qaa w3 (.cells #[.int .i64 y2,.bool s2] 34)
 have BM:=zH (Box.new w3 #[.int .i64 y2,.bool s2] 34)
 have BN4:=zH (((uI BN).step k3).step kM)
 have S4:=zH ((uI S3).next kM)
 clear k3 S2 S3 CB d0 d1 d2 d3 d4 d5 a0 a1 a2 a3 a4 a5 hsA z0 z1 zf zl kM hky1 hbk1 u0 u1 hsN BN
 obtain⟨a0,a1,a2,a3,a4,a5⟩:=(uI S4).A.six8
 have hsA:=(uI S4).A.1
 obtain⟨z0,z1⟩:=(uI S4).R.at2
 have zf:=(uI S4).R.2.2
 have zl:=(uI S4).R.1
 obtain⟨u0,u1⟩:=(uI BN4).at2
 have hsN:=(uI BN4).1
 obtain⟨v0,v1⟩:=(uI BM).at2
 have hsM:=(uI BM).1
 generalize hW4:w3.alloc (.cells #[.int .i64 y2,.bool s2] 34)=W4 at *
 go_wp2_with fail
 refine zU (fun W=>W.cell? ⟨w3.heap.size,0,none⟩=some (.int .i64 y2)∧W.cell? ⟨w3.heap.size,1,none⟩=some (.bool s2)) (by kernel_rfl) ?_
 have S9:=zH ((uI S4).next (Below.refl _ _).drew)
 have B9:=zH ((uI BM).step (Below.refl _ _).drew)
 have hne:w3.heap.size≠w.heap.size+1:=by have:=(uI HNE);omega
 clear a0 a1 a2 a3 a4 a5 hsA z0 z1 zf zl S4 BM u0 u1 hsN v0 v1 hsM BN4
 generalize W4.drew=W8 at *
 refine qR 0 2 3 ?_
 simp only[zTD]
 repeat (refine zS (fun K hK=>?_);go_simp;first|(refine zQ ?_ (fun W hW=>?_) (hK _ ?_);rotate_left;(obtain⟨d0,d1⟩:=hW;go_simp;first|done|rfl);clear hK K)|(refine hK _ ?_;clear hK K))
 refine zO ?_
 refine qO 2 2 ((uI B9).at2) ?_
 simp only[zTD]
 go_wp2_with fail
 first|refine zN ?_|refine zG ?_
 obtain⟨z0,z1⟩:=(uI S9).R.at2
 have zf:=(uI S9).R.2.2
 have zl:=(uI S9).R.1
 refine qO 3 1 ((uI B9).at2) ?_
 simp only[zTD]
 go_wp2_with fail
 first|refine zN ?_|refine zG ?_
 have SP:=zH ((uI S9).put9 (uI HBB) (.int .i64 y2) (.bool s2))
 have BP:=zH (((uI B9).other (b':=w.heap.size+1) (j:=0) (u:=.int .i64 y2) hne).other (b':=w.heap.size+1) (j:=1) (u:=.bool s2) hne)
 obtain⟨p0,p1⟩:=(uI SP).R.at2
 refine qO 4 0 ((uI BP).at2) ?_
 simp only[zTD]
 go_wp2_with fail
 first|refine zN ?_|refine zG ?_
 refine zE (by kernel_rfl) ((uI BP).at2) ?_
 go_wp2_with fail
 exact bodyPost_ret (v:=.tuple #[.int .u64 0,.agg #[.int .i64 y2,.bool s2],.int .i64 er]) (by simp[results,Tryz.results18,go_sem,p0,p1]) rfl ⟨rfl,(uI SP).d⟩
theorem rc_two (x x0 x1:Ex)(n1 y1 n2 y2 V er RB:Int)(s1 s2 RS:Bool)(hk:6≤x.k)(hk2:x.k≤24)(hkids:x.kids=[x0,x1])(IH0:RcC x0 n1 y1 s1 0)(IH1:RcC x1 n2 y2 s2 0)
  (HB:∀ w:World,Calls Tryz.prog 41 #[.int .i64 x.k,.int .u64 n1,.int .u64 n2,.agg #[.int .i64 y1,.bool s1],.agg #[.int .i64 y2,.bool s2]] w fun e w'=>e=.returned (.tuple #[.int .u64 V,.int .i64 er])∧Below w.heap.size w w')
  (HR:∀ w:World,Calls Tryz.prog 42 #[.int .i64 x.k,.agg #[.int .i64 y1,.bool s1],.agg #[.int .i64 y2,.bool s2]] w fun e w'=>e=.returned (.agg #[.int .i64 RB,.bool RS])∧Below w.heap.size w w'):RcC x V RB RS er:=by
 intro B kv w hx hB
 obtain⟨ka,kc,rfl⟩:∃ ao cap,kv=.slice ao x.kids.length cap:=by obtain⟨ao,cap,e,-⟩:=hx.at;exact⟨ao,cap,e⟩
 have S0:=zH (Tv.begin #[.int .i64 0,.bool false] 57 34 hx hB)
 have hl:1≤x.kids.length:=by rw[hkids];simp
 obtain⟨bk,off,kv0,rfl,hbk,hky,c0,c1,c2,c3,c4,c5⟩:=qa4 (uI S0) 0 (by omega)
 have ey0:x.kids[0]'(by omega)=x0:=by simp[hkids]
 rw[ey0] at hky c0 c1 c2 c3 c4
 simp only[Nat.zero_mul,Nat.add_zero] at c0 c1 c2 c3 c4 c5
 have CA:=zH (IH0 _ _ _ hky (uI S0).le)
 obtain⟨a0,a1,a2,a3,a4,a5⟩:=(uI S0).A.six8
 have e1:(x.k==1)=false:=zBq (by omega)
 have e4:¬ x.k≤4:=by omega
 have e5:(x.k==5)=false:=zBq (by omega)
 have e25:(x.k==25)=false:=zBq (by omega)
 have e26:(x.k==26)=false:=zBq (by omega)
 have HB:=zH HB
 have HR:=zH HR
 have hl1:(1:Int)≤(x.kids.length:Int):=by omega
 have hl2:0<x.kids.length:=by omega
 have hl3:((x.kids.length:Int)==1)=false:=by rw[hkids];rfl
 have hl4:(x.kids.length==1)=false:=by rw[hkids];rfl
 have hl5:(2:Int)≤(x.kids.length:Int):=by rw[hkids];simp
 have hl6:1<x.kids.length:=by rw[hkids];simp
 have HKI:=zH hkids
 clear IH0 ey0 hkids
 have hsA:=(uI S0).A.1
 obtain⟨z0,z1⟩:=(uI S0).R.at2
 have zf:=(uI S0).R.2.2
 have zl:=(uI S0).R.1
 have HBB:=zH hB
 clear hx hB
 generalize hW0:(w.alloc (.cells #[.int .i64 x.k,.int .u64 x.n,.int .i64 x.b,.bool x.s,.string x.nm,.slice (some ⟨bk,off,none⟩) x.kids.length kc] 57)).alloc (.cells #[.int .i64 0,.bool false] 34)=W0 at *
 go_enter Tryz.func18,Tryz.ntmps18
 go_wp2_with fail
 refine (uI CA).mono ?_
 rintro e w1 ⟨rfl,k1⟩
 have S1:=zH ((uI S0).next k1)
 have HNE:=zH (uI S1).R.1
 have kN:=qaa w1 (.cells #[.int .i64 y1,.bool s1] 34)
 have BN:=zH (Box.new w1 #[.int .i64 y1,.bool s1] 34)
 have S2:=zH ((uI S1).next kN)
 clear k1 S0 S1 CA c0 c1 c2 c3 c4 c5 a0 a1 a2 a3 a4 a5 hsA z0 z1 zf zl kN hky hbk
 obtain⟨a0,a1,a2,a3,a4,a5⟩:=(uI S2).A.six8
 have hsA:=(uI S2).A.1
 obtain⟨z0,z1⟩:=(uI S2).R.at2
 have zf:=(uI S2).R.2.2
 have zl:=(uI S2).R.1
 obtain⟨u0,u1⟩:=(uI BN).at2
 have hsN:=(uI BN).1
 generalize hW2:w1.alloc (.cells #[.int .i64 y1,.bool s1] 34)=W2 at *
 obtain⟨bk1,off1,kv1,ek1,hbk1,hky1,d0,d1,d2,d3,d4,d5⟩:=qa4 (uI S2) 1 hl6
 have ey1:x.kids[1]'hl6=x1:=by simp[uI HKI]
 rw[ey1] at hky1 d0 d1 d2 d3 d4
 clear ey1
 injection ek1 with ek1
 injection ek1 with ek1 ek2
 subst ek1 ek2
 simp only[Nat.one_mul] at d0 d1 d2 d3 d4 d5
 have CB:=zH (IH1 _ _ _ hky1 (uI S2).le)
 clear IH1
 go_wp2_with fail
 refine (uI CB).mono ?_
 rintro e w3 ⟨rfl,k3⟩
 have S3:=zH ((uI S2).next k3)
 clear HNE
 have HNE:=zH (uI S3).R.1
 have kM:=qaa w3 (.cells #[.int .i64 y2,.bool s2] 34)
 have BM:=zH (Box.new w3 #[.int .i64 y2,.bool s2] 34)
 have BN4:=zH (((uI BN).step k3).step kM)
 have S4:=zH ((uI S3).next kM)
 clear k3 S2 S3 CB d0 d1 d2 d3 d4 d5 a0 a1 a2 a3 a4 a5 hsA z0 z1 zf zl kM hky1 hbk1 u0 u1 hsN BN
 obtain⟨a0,a1,a2,a3,a4,a5⟩:=(uI S4).A.six8
 have hsA:=(uI S4).A.1
 obtain⟨z0,z1⟩:=(uI S4).R.at2
 have zf:=(uI S4).R.2.2
 have zl:=(uI S4).R.1
 obtain⟨u0,u1⟩:=(uI BN4).at2
 have hsN:=(uI BN4).1
 obtain⟨v0,v1⟩:=(uI BM).at2
 have hsM:=(uI BM).1
 generalize hW4:w3.alloc (.cells #[.int .i64 y2,.bool s2] 34)=W4 at *
 go_wp2_with fail
 refine (uI HB _).mono ?_
 rintro e w5 ⟨rfl,k5⟩
 have S5:=zH ((uI S4).next k5)
 have BN5:=zH ((uI BN4).step k5)
 have BM5:=zH ((uI BM).step k5)
 clear k5 S4 a0 a1 a2 a3 a4 a5 hsA z0 z1 zf zl HB u0 u1 hsN BN4 v0 v1 hsM BM
 obtain⟨a0,a1,a2,a3,a4,a5⟩:=(uI S5).A.six8
 have hsA:=(uI S5).A.1
 obtain⟨z0,z1⟩:=(uI S5).R.at2
 have zf:=(uI S5).R.2.2
 have zl:=(uI S5).R.1
 obtain⟨u0,u1⟩:=(uI BN5).at2
 have hsN:=(uI BN5).1
 obtain⟨v0,v1⟩:=(uI BM5).at2
 have hsM:=(uI BM5).1
 go_wp2_with fail
 refine (uI HR _).mono ?_
 rintro e w6 ⟨rfl,k6⟩
 have S6:=zH ((uI S5).next k6)
 clear k6 S5 a0 a1 a2 a3 a4 a5 hsA z0 z1 zf zl HR u0 u1 hsN BN5 v0 v1 hsM BM5
 obtain⟨z0,z1⟩:=(uI S6).R.at2
 have zf:=(uI S6).R.2.2
 have zl:=(uI S6).R.1
 go_wp2_with fail
 obtain⟨p0,p1⟩:=((uI S6).R.two9 (.int .i64 RB) (.bool RS)).at2
 exact bodyPost_ret (v:=.tuple #[.int .u64 V,.agg #[.int .i64 RB,.bool RS],.int .i64 er]) (by simp[results,Tryz.results18,go_sem,p0,p1]) rfl ⟨rfl,zY (uI S6).d (by omega) _ _⟩
theorem rc_cast (x x0:Ex)(n1 y1 V:Int)(s1:Bool)(hk:x.k=5)(hkids:x.kids=[x0])(IH0:RcC x0 n1 y1 s1 0)
  (HC:∀ w:World,Calls Tryz.prog 38 #[.int .u64 n1,.agg #[.int .i64 y1,.bool s1],.agg #[.int .i64 x.b,.bool x.s]] w fun e w'=>e=.returned (.int .u64 V)∧Below w.heap.size w w'):RcC x V x.b x.s 0:=by
 intro B kv w hx hB
 obtain⟨ka,kc,rfl⟩:∃ ao cap,kv=.slice ao x.kids.length cap:=by obtain⟨ao,cap,e,-⟩:=hx.at;exact⟨ao,cap,e⟩
 have S0:=zH (Tv.begin #[.int .i64 0,.bool false] 57 34 hx hB)
 have hl:1≤x.kids.length:=by rw[hkids];simp
 obtain⟨bk,off,kv0,rfl,hbk,hky,c0,c1,c2,c3,c4,c5⟩:=qa4 (uI S0) 0 (by omega)
 have ey0:x.kids[0]'(by omega)=x0:=by simp[hkids]
 rw[ey0] at hky c0 c1 c2 c3 c4
 simp only[Nat.zero_mul,Nat.add_zero] at c0 c1 c2 c3 c4 c5
 have CA:=zH (IH0 _ _ _ hky (uI S0).le)
 obtain⟨a0,a1,a2,a3,a4,a5⟩:=(uI S0).A.six8
 have e1:(x.k==1)=false:=zBq (by omega)
 have e4:¬ x.k≤4:=by omega
 have e5:(x.k==5)=true:=beq_iff_eq.2 hk
 have hl1:(1:Int)≤(x.kids.length:Int):=by omega
 have hl2:0<x.kids.length:=by omega
 have HC:=zH HC
 have HK:=zH hk
 clear IH0 ey0 hkids hk
 have hsA:=(uI S0).A.1
 obtain⟨z0,z1⟩:=(uI S0).R.at2
 have zf:=(uI S0).R.2.2
 have zl:=(uI S0).R.1
 have HBB:=zH hB
 clear hx hB
 generalize hW0:(w.alloc (.cells #[.int .i64 x.k,.int .u64 x.n,.int .i64 x.b,.bool x.s,.string x.nm,.slice (some ⟨bk,off,none⟩) x.kids.length kc] 57)).alloc (.cells #[.int .i64 0,.bool false] 34)=W0 at *
 go_enter Tryz.func18,Tryz.ntmps18
 go_wp2_with fail
 refine (uI CA).mono ?_
 rintro e w1 ⟨rfl,k1⟩
 have S1:=zH ((uI S0).next k1)
 have HNE:=zH (uI S1).R.1
 have kN:=qaa w1 (.cells #[.int .i64 y1,.bool s1] 34)
 have BN:=zH (Box.new w1 #[.int .i64 y1,.bool s1] 34)
 have S2:=zH ((uI S1).next kN)
 clear k1 S0 S1 CA c0 c1 c2 c3 c4 c5 a0 a1 a2 a3 a4 a5 hsA z0 z1 zf zl kN hky hbk
 obtain⟨a0,a1,a2,a3,a4,a5⟩:=(uI S2).A.six8
 have hsA:=(uI S2).A.1
 obtain⟨z0,z1⟩:=(uI S2).R.at2
 have zf:=(uI S2).R.2.2
 have zl:=(uI S2).R.1
 obtain⟨u0,u1⟩:=(uI BN).at2
 have hsN:=(uI BN).1
 generalize hW2:w1.alloc (.cells #[.int .i64 y1,.bool s1] 34)=W2 at *
 go_wp2_with fail
 refine zU (fun W=>W.cell? ⟨w.heap.size,2,none⟩=some (.int .i64 x.b)∧W.cell? ⟨w.heap.size,3,none⟩=some (.bool x.s)∧W.cell? ⟨w1.heap.size,0,none⟩=some (.int .i64 y1)∧W.cell? ⟨w1.heap.size,1,none⟩=some (.bool s1)) (by kernel_rfl) ?_
 have S9:=zH ((uI S2).next (Below.refl _ _).drew)
 have B9:=zH ((uI BN).step (Below.refl _ _).drew)
 have hne:w1.heap.size≠w.heap.size+1:=by have:=(uI HNE);omega
 clear a0 a1 a2 a3 a4 a5 hsA z0 z1 zf zl S2 BN u0 u1 hsN
 have CL:=zH (fun (W:World) (r:List Value) (s:Tv w W B x (some ⟨bk,off,none⟩) kc r) (t:Box W w1.heap.size [.int .i64 y1,.bool s1])=>(⟨s.A.2.1 2 _ rfl,s.A.2.1 3 _ rfl,t.2.1 0 _ rfl,t.2.1 1 _ rfl⟩:W.cell? ⟨w.heap.size,2,none⟩=some (.int .i64 x.b)∧W.cell? ⟨w.heap.size,3,none⟩=some (.bool x.s)∧W.cell? ⟨w1.heap.size,0,none⟩=some (.int .i64 y1)∧W.cell? ⟨w1.heap.size,1,none⟩=some (.bool s1)))
 generalize W2.drew=W8 at *
 refine qR 0 4 6 ?_
 simp only[zTD]
 repeat (refine zS (fun K hK=>?_);go_simp;first|(refine zQ ?_ (fun W hW=>?_) (hK _ ?_);rotate_left;(obtain⟨d0,d1,d2,d3⟩:=hW;go_simp;first|done|rfl);clear hK K)|(refine hK _ ?_;clear hK K))
 refine zO ?_
 refine qR 5 2 4 ?_
 simp only[zTD]
 repeat (refine zS (fun K hK=>?_);go_simp;first|(refine zQ ?_ (fun W hW=>?_) (hK _ ?_);rotate_left;(obtain⟨d0,d1,d2,d3⟩:=hW;go_simp;first|done|rfl);clear hK K)|(refine hK _ ?_;clear hK K))
 refine zO ?_
 refine qO 4 3 (uI CL _ _ (uI S9) (uI B9)) ?_
 simp only[zTD]
 go_wp2_with fail
 refine (uI HC _).mono ?_
 rintro e w5 ⟨rfl,k5⟩
 have S5:=zH ((uI S9).next k5)
 have B5:=zH ((uI B9).step k5)
 clear k5 S9 B9 HC
 go_wp2_with fail
 first|refine zN ?_|refine zG ?_
 refine qO 7 2 (uI CL _ _ (uI S5) (uI B5)) ?_
 simp only[zTD]
 go_wp2_with fail
 first|refine zN ?_|refine zG ?_
 obtain⟨z0,z1⟩:=(uI S5).R.at2
 have zf:=(uI S5).R.2.2
 have zl:=(uI S5).R.1
 refine qO 8 1 (uI CL _ _ (uI S5) (uI B5)) ?_
 simp only[zTD]
 go_wp2_with fail
 first|refine zN ?_|refine zG ?_
 have SP:=zH ((uI S5).put9 (uI HBB) (.int .i64 x.b) (.bool x.s))
 have BP:=zH (((uI B5).other (b':=w.heap.size+1) (j:=0) (u:=.int .i64 x.b) hne).other (b':=w.heap.size+1) (j:=1) (u:=.bool x.s) hne)
 obtain⟨p0,p1⟩:=(uI SP).R.at2
 refine qO 9 0 (uI CL _ _ (uI SP) (uI BP)) ?_
 simp only[zTD]
 go_wp2_with fail
 first|refine zN ?_|refine zG ?_
 refine zE (by kernel_rfl) (uI CL _ _ (uI SP) (uI BP)) ?_
 go_wp2_with fail
 exact bodyPost_ret (v:=.tuple #[.int .u64 V,.agg #[.int .i64 x.b,.bool x.s],.int .i64 0]) (by simp[results,Tryz.results18,go_sem,p0,p1]) rfl ⟨rfl,(uI SP).d⟩
theorem rc_land00 (x x0 x1:Ex)(n1 y1 n2 y2:Int)(s1 s2:Bool)(hk:x.k=25)(hkids:x.kids=[x0,x1])(IH0:RcC x0 n1 y1 s1 0)(IH1:RcC x1 n2 y2 s2 0)(h1:(n1 != 0)=false)(h2:(n2 != 0)=false):RcC x 0 16 true 0:=by
 have h1':(n1==0)=true:=by cases hz:(n1==0) <;> simp_all [bne]
 have h2':(n2==0)=true:=by cases hz:(n2==0) <;> simp_all [bne]
 intro B kv w hx hB
 obtain⟨ka,kc,rfl⟩:∃ ao cap,kv=.slice ao x.kids.length cap:=by obtain⟨ao,cap,e,-⟩:=hx.at;exact⟨ao,cap,e⟩
 have S0:=zH (Tv.begin #[.int .i64 0,.bool false] 57 34 hx hB)
 have hl:1≤x.kids.length:=by rw[hkids];simp
 obtain⟨bk,off,kv0,rfl,hbk,hky,c0,c1,c2,c3,c4,c5⟩:=qa4 (uI S0) 0 (by omega)
 have ey0:x.kids[0]'(by omega)=x0:=by simp[hkids]
 rw[ey0] at hky c0 c1 c2 c3 c4
 simp only[Nat.zero_mul,Nat.add_zero] at c0 c1 c2 c3 c4 c5
 have CA:=zH (IH0 _ _ _ hky (uI S0).le)
 obtain⟨a0,a1,a2,a3,a4,a5⟩:=(uI S0).A.six8
 have e1:(x.k==1)=false:=zBq (by omega)
 have e4:¬ x.k≤4:=by omega
 have e5:(x.k==5)=false:=zBq (by omega)
 have e25:(x.k==25)=true:=beq_iff_eq.2 hk
 have e26:(x.k==26)=false:=zBq (by omega)
 have HK:=zH hk
 have hl1:(1:Int)≤(x.kids.length:Int):=by omega
 have hl2:0<x.kids.length:=by omega
 have hl3:((x.kids.length:Int)==1)=false:=by rw[hkids];rfl
 have hl4:(x.kids.length==1)=false:=by rw[hkids];rfl
 have hl5:(2:Int)≤(x.kids.length:Int):=by rw[hkids];simp
 have hl6:1<x.kids.length:=by rw[hkids];simp
 have HKI:=zH hkids
 clear IH0 ey0 hkids
 clear hk
 have hsA:=(uI S0).A.1
 obtain⟨z0,z1⟩:=(uI S0).R.at2
 have zf:=(uI S0).R.2.2
 have zl:=(uI S0).R.1
 have HBB:=zH hB
 clear hx hB
 generalize hW0:(w.alloc (.cells #[.int .i64 x.k,.int .u64 x.n,.int .i64 x.b,.bool x.s,.string x.nm,.slice (some ⟨bk,off,none⟩) x.kids.length kc] 57)).alloc (.cells #[.int .i64 0,.bool false] 34)=W0 at *
 go_enter Tryz.func18,Tryz.ntmps18
 go_wp2_with fail
 refine (uI CA).mono ?_
 rintro e w1 ⟨rfl,k1⟩
 have S1:=zH ((uI S0).next k1)
 have HNE:=zH (uI S1).R.1
 have kN:=qaa w1 (.cells #[.int .i64 y1,.bool s1] 34)
 have BN:=zH (Box.new w1 #[.int .i64 y1,.bool s1] 34)
 have S2:=zH ((uI S1).next kN)
 clear k1 S0 S1 CA c0 c1 c2 c3 c4 c5 a0 a1 a2 a3 a4 a5 hsA z0 z1 zf zl kN hky hbk
 obtain⟨a0,a1,a2,a3,a4,a5⟩:=(uI S2).A.six8
 have hsA:=(uI S2).A.1
 obtain⟨z0,z1⟩:=(uI S2).R.at2
 have zf:=(uI S2).R.2.2
 have zl:=(uI S2).R.1
 obtain⟨u0,u1⟩:=(uI BN).at2
 have hsN:=(uI BN).1
 generalize hW2:w1.alloc (.cells #[.int .i64 y1,.bool s1] 34)=W2 at *
 obtain⟨bk1,off1,kv1,ek1,hbk1,hky1,d0,d1,d2,d3,d4,d5⟩:=qa4 (uI S2) 1 hl6
 have ey1:x.kids[1]'hl6=x1:=by simp[uI HKI]
 rw[ey1] at hky1 d0 d1 d2 d3 d4
 clear ey1
 injection ek1 with ek1
 injection ek1 with ek1 ek2
 subst ek1 ek2
 simp only[Nat.one_mul] at d0 d1 d2 d3 d4 d5
 have CB:=zH (IH1 _ _ _ hky1 (uI S2).le)
 clear IH1
 go_wp2_with fail
 refine (uI CB).mono ?_
 rintro e w3 ⟨rfl,k3⟩
 have S3:=zH ((uI S2).next k3)
 clear HNE
 have HNE:=zH (uI S3).R.1
 have kM:=qaa w3 (.cells #[.int .i64 y2,.bool s2] 34)
 have BM:=zH (Box.new w3 #[.int .i64 y2,.bool s2] 34)
 have BN4:=zH (((uI BN).step k3).step kM)
 have S4:=zH ((uI S3).next kM)
 clear k3 S2 S3 CB d0 d1 d2 d3 d4 d5 a0 a1 a2 a3 a4 a5 hsA z0 z1 zf zl kM hky1 hbk1 u0 u1 hsN BN
 obtain⟨a0,a1,a2,a3,a4,a5⟩:=(uI S4).A.six8
 have hsA:=(uI S4).A.1
 obtain⟨z0,z1⟩:=(uI S4).R.at2
 have zf:=(uI S4).R.2.2
 have zl:=(uI S4).R.1
 obtain⟨u0,u1⟩:=(uI BN4).at2
 have hsN:=(uI BN4).1
 obtain⟨v0,v1⟩:=(uI BM).at2
 have hsM:=(uI BM).1
 generalize hW4:w3.alloc (.cells #[.int .i64 y2,.bool s2] 34)=W4 at *
 go_wp2_with fail
 refine (qa2 _).mono ?_
 rintro e w5 ⟨rfl,k5⟩
 have S5:=zH ((uI S4).next k5)
 clear k5 S4 a0 a1 a2 a3 a4 a5 hsA z0 z1 zf zl u0 u1 hsN BN4 v0 v1 hsM BM
 obtain⟨z0,z1⟩:=(uI S5).R.at2
 have zf:=(uI S5).R.2.2
 have zl:=(uI S5).R.1
 go_wp2_with fail
 obtain⟨p0,p1⟩:=((uI S5).R.two9 (.int .i64 16) (.bool true)).at2
 exact bodyPost_ret (v:=.tuple #[.int .u64 0,.agg #[.int .i64 16,.bool true],.int .i64 0]) (by simp[results,Tryz.results18,go_sem,p0,p1]) rfl ⟨rfl,zY (uI S5).d (by omega) _ _⟩
theorem rc_land01 (x x0 x1:Ex)(n1 y1 n2 y2:Int)(s1 s2:Bool)(hk:x.k=25)(hkids:x.kids=[x0,x1])(IH0:RcC x0 n1 y1 s1 0)(IH1:RcC x1 n2 y2 s2 0)(h1:(n1 != 0)=false)(h2:(n2 != 0)=true):RcC x 0 16 true 0:=by
 have h1':(n1==0)=true:=by cases hz:(n1==0) <;> simp_all [bne]
 have h2':(n2==0)=false:=by cases hz:(n2==0) <;> simp_all [bne]
 intro B kv w hx hB
 obtain⟨ka,kc,rfl⟩:∃ ao cap,kv=.slice ao x.kids.length cap:=by obtain⟨ao,cap,e,-⟩:=hx.at;exact⟨ao,cap,e⟩
 have S0:=zH (Tv.begin #[.int .i64 0,.bool false] 57 34 hx hB)
 have hl:1≤x.kids.length:=by rw[hkids];simp
 obtain⟨bk,off,kv0,rfl,hbk,hky,c0,c1,c2,c3,c4,c5⟩:=qa4 (uI S0) 0 (by omega)
 have ey0:x.kids[0]'(by omega)=x0:=by simp[hkids]
 rw[ey0] at hky c0 c1 c2 c3 c4
 simp only[Nat.zero_mul,Nat.add_zero] at c0 c1 c2 c3 c4 c5
 have CA:=zH (IH0 _ _ _ hky (uI S0).le)
 obtain⟨a0,a1,a2,a3,a4,a5⟩:=(uI S0).A.six8
 have e1:(x.k==1)=false:=zBq (by omega)
 have e4:¬ x.k≤4:=by omega
 have e5:(x.k==5)=false:=zBq (by omega)
 have e25:(x.k==25)=true:=beq_iff_eq.2 hk
 have e26:(x.k==26)=false:=zBq (by omega)
 have HK:=zH hk
 have hl1:(1:Int)≤(x.kids.length:Int):=by omega
 have hl2:0<x.kids.length:=by omega
 have hl3:((x.kids.length:Int)==1)=false:=by rw[hkids];rfl
 have hl4:(x.kids.length==1)=false:=by rw[hkids];rfl
 have hl5:(2:Int)≤(x.kids.length:Int):=by rw[hkids];simp
 have hl6:1<x.kids.length:=by rw[hkids];simp
 have HKI:=zH hkids
 clear IH0 ey0 hkids
 clear hk
 have hsA:=(uI S0).A.1
 obtain⟨z0,z1⟩:=(uI S0).R.at2
 have zf:=(uI S0).R.2.2
 have zl:=(uI S0).R.1
 have HBB:=zH hB
 clear hx hB
 generalize hW0:(w.alloc (.cells #[.int .i64 x.k,.int .u64 x.n,.int .i64 x.b,.bool x.s,.string x.nm,.slice (some ⟨bk,off,none⟩) x.kids.length kc] 57)).alloc (.cells #[.int .i64 0,.bool false] 34)=W0 at *
 go_enter Tryz.func18,Tryz.ntmps18
 go_wp2_with fail
 refine (uI CA).mono ?_
 rintro e w1 ⟨rfl,k1⟩
 have S1:=zH ((uI S0).next k1)
 have HNE:=zH (uI S1).R.1
 have kN:=qaa w1 (.cells #[.int .i64 y1,.bool s1] 34)
 have BN:=zH (Box.new w1 #[.int .i64 y1,.bool s1] 34)
 have S2:=zH ((uI S1).next kN)
 clear k1 S0 S1 CA c0 c1 c2 c3 c4 c5 a0 a1 a2 a3 a4 a5 hsA z0 z1 zf zl kN hky hbk
 obtain⟨a0,a1,a2,a3,a4,a5⟩:=(uI S2).A.six8
 have hsA:=(uI S2).A.1
 obtain⟨z0,z1⟩:=(uI S2).R.at2
 have zf:=(uI S2).R.2.2
 have zl:=(uI S2).R.1
 obtain⟨u0,u1⟩:=(uI BN).at2
 have hsN:=(uI BN).1
 generalize hW2:w1.alloc (.cells #[.int .i64 y1,.bool s1] 34)=W2 at *
 obtain⟨bk1,off1,kv1,ek1,hbk1,hky1,d0,d1,d2,d3,d4,d5⟩:=qa4 (uI S2) 1 hl6
 have ey1:x.kids[1]'hl6=x1:=by simp[uI HKI]
 rw[ey1] at hky1 d0 d1 d2 d3 d4
 clear ey1
 injection ek1 with ek1
 injection ek1 with ek1 ek2
 subst ek1 ek2
 simp only[Nat.one_mul] at d0 d1 d2 d3 d4 d5
 have CB:=zH (IH1 _ _ _ hky1 (uI S2).le)
 clear IH1
 go_wp2_with fail
 refine (uI CB).mono ?_
 rintro e w3 ⟨rfl,k3⟩
 have S3:=zH ((uI S2).next k3)
 clear HNE
 have HNE:=zH (uI S3).R.1
 have kM:=qaa w3 (.cells #[.int .i64 y2,.bool s2] 34)
 have BM:=zH (Box.new w3 #[.int .i64 y2,.bool s2] 34)
 have BN4:=zH (((uI BN).step k3).step kM)
 have S4:=zH ((uI S3).next kM)
 clear k3 S2 S3 CB d0 d1 d2 d3 d4 d5 a0 a1 a2 a3 a4 a5 hsA z0 z1 zf zl kM hky1 hbk1 u0 u1 hsN BN
 obtain⟨a0,a1,a2,a3,a4,a5⟩:=(uI S4).A.six8
 have hsA:=(uI S4).A.1
 obtain⟨z0,z1⟩:=(uI S4).R.at2
 have zf:=(uI S4).R.2.2
 have zl:=(uI S4).R.1
 obtain⟨u0,u1⟩:=(uI BN4).at2
 have hsN:=(uI BN4).1
 obtain⟨v0,v1⟩:=(uI BM).at2
 have hsM:=(uI BM).1
 generalize hW4:w3.alloc (.cells #[.int .i64 y2,.bool s2] 34)=W4 at *
 go_wp2_with fail
 refine (qa2 _).mono ?_
 rintro e w5 ⟨rfl,k5⟩
 have S5:=zH ((uI S4).next k5)
 clear k5 S4 a0 a1 a2 a3 a4 a5 hsA z0 z1 zf zl u0 u1 hsN BN4 v0 v1 hsM BM
 obtain⟨z0,z1⟩:=(uI S5).R.at2
 have zf:=(uI S5).R.2.2
 have zl:=(uI S5).R.1
 go_wp2_with fail
 obtain⟨p0,p1⟩:=((uI S5).R.two9 (.int .i64 16) (.bool true)).at2
 exact bodyPost_ret (v:=.tuple #[.int .u64 0,.agg #[.int .i64 16,.bool true],.int .i64 0]) (by simp[results,Tryz.results18,go_sem,p0,p1]) rfl ⟨rfl,zY (uI S5).d (by omega) _ _⟩
theorem rc_land10 (x x0 x1:Ex)(n1 y1 n2 y2:Int)(s1 s2:Bool)(hk:x.k=25)(hkids:x.kids=[x0,x1])(IH0:RcC x0 n1 y1 s1 0)(IH1:RcC x1 n2 y2 s2 0)(h1:(n1 != 0)=true)(h2:(n2 != 0)=false):RcC x 0 16 true 0:=by
 have h1':(n1==0)=false:=by cases hz:(n1==0) <;> simp_all [bne]
 have h2':(n2==0)=true:=by cases hz:(n2==0) <;> simp_all [bne]
 intro B kv w hx hB
 obtain⟨ka,kc,rfl⟩:∃ ao cap,kv=.slice ao x.kids.length cap:=by obtain⟨ao,cap,e,-⟩:=hx.at;exact⟨ao,cap,e⟩
 have S0:=zH (Tv.begin #[.int .i64 0,.bool false] 57 34 hx hB)
 have hl:1≤x.kids.length:=by rw[hkids];simp
 obtain⟨bk,off,kv0,rfl,hbk,hky,c0,c1,c2,c3,c4,c5⟩:=qa4 (uI S0) 0 (by omega)
 have ey0:x.kids[0]'(by omega)=x0:=by simp[hkids]
 rw[ey0] at hky c0 c1 c2 c3 c4
 simp only[Nat.zero_mul,Nat.add_zero] at c0 c1 c2 c3 c4 c5
 have CA:=zH (IH0 _ _ _ hky (uI S0).le)
 obtain⟨a0,a1,a2,a3,a4,a5⟩:=(uI S0).A.six8
 have e1:(x.k==1)=false:=zBq (by omega)
 have e4:¬ x.k≤4:=by omega
 have e5:(x.k==5)=false:=zBq (by omega)
 have e25:(x.k==25)=true:=beq_iff_eq.2 hk
 have e26:(x.k==26)=false:=zBq (by omega)
 have HK:=zH hk
 have hl1:(1:Int)≤(x.kids.length:Int):=by omega
 have hl2:0<x.kids.length:=by omega
 have hl3:((x.kids.length:Int)==1)=false:=by rw[hkids];rfl
 have hl4:(x.kids.length==1)=false:=by rw[hkids];rfl
 have hl5:(2:Int)≤(x.kids.length:Int):=by rw[hkids];simp
 have hl6:1<x.kids.length:=by rw[hkids];simp
 have HKI:=zH hkids
 clear IH0 ey0 hkids
 clear hk
 have hsA:=(uI S0).A.1
 obtain⟨z0,z1⟩:=(uI S0).R.at2
 have zf:=(uI S0).R.2.2
 have zl:=(uI S0).R.1
 have HBB:=zH hB
 clear hx hB
 generalize hW0:(w.alloc (.cells #[.int .i64 x.k,.int .u64 x.n,.int .i64 x.b,.bool x.s,.string x.nm,.slice (some ⟨bk,off,none⟩) x.kids.length kc] 57)).alloc (.cells #[.int .i64 0,.bool false] 34)=W0 at *
 go_enter Tryz.func18,Tryz.ntmps18
 go_wp2_with fail
 refine (uI CA).mono ?_
 rintro e w1 ⟨rfl,k1⟩
 have S1:=zH ((uI S0).next k1)
 have HNE:=zH (uI S1).R.1
 have kN:=qaa w1 (.cells #[.int .i64 y1,.bool s1] 34)
 have BN:=zH (Box.new w1 #[.int .i64 y1,.bool s1] 34)
 have S2:=zH ((uI S1).next kN)
 clear k1 S0 S1 CA c0 c1 c2 c3 c4 c5 a0 a1 a2 a3 a4 a5 hsA z0 z1 zf zl kN hky hbk
 obtain⟨a0,a1,a2,a3,a4,a5⟩:=(uI S2).A.six8
 have hsA:=(uI S2).A.1
 obtain⟨z0,z1⟩:=(uI S2).R.at2
 have zf:=(uI S2).R.2.2
 have zl:=(uI S2).R.1
 obtain⟨u0,u1⟩:=(uI BN).at2
 have hsN:=(uI BN).1
 generalize hW2:w1.alloc (.cells #[.int .i64 y1,.bool s1] 34)=W2 at *
 obtain⟨bk1,off1,kv1,ek1,hbk1,hky1,d0,d1,d2,d3,d4,d5⟩:=qa4 (uI S2) 1 hl6
 have ey1:x.kids[1]'hl6=x1:=by simp[uI HKI]
 rw[ey1] at hky1 d0 d1 d2 d3 d4
 clear ey1
 injection ek1 with ek1
 injection ek1 with ek1 ek2
 subst ek1 ek2
 simp only[Nat.one_mul] at d0 d1 d2 d3 d4 d5
 have CB:=zH (IH1 _ _ _ hky1 (uI S2).le)
 clear IH1
 go_wp2_with fail
 refine (uI CB).mono ?_
 rintro e w3 ⟨rfl,k3⟩
 have S3:=zH ((uI S2).next k3)
 clear HNE
 have HNE:=zH (uI S3).R.1
 have kM:=qaa w3 (.cells #[.int .i64 y2,.bool s2] 34)
 have BM:=zH (Box.new w3 #[.int .i64 y2,.bool s2] 34)
 have BN4:=zH (((uI BN).step k3).step kM)
 have S4:=zH ((uI S3).next kM)
 clear k3 S2 S3 CB d0 d1 d2 d3 d4 d5 a0 a1 a2 a3 a4 a5 hsA z0 z1 zf zl kM hky1 hbk1 u0 u1 hsN BN
 obtain⟨a0,a1,a2,a3,a4,a5⟩:=(uI S4).A.six8
 have hsA:=(uI S4).A.1
 obtain⟨z0,z1⟩:=(uI S4).R.at2
 have zf:=(uI S4).R.2.2
 have zl:=(uI S4).R.1
 obtain⟨u0,u1⟩:=(uI BN4).at2
 have hsN:=(uI BN4).1
 obtain⟨v0,v1⟩:=(uI BM).at2
 have hsM:=(uI BM).1
 generalize hW4:w3.alloc (.cells #[.int .i64 y2,.bool s2] 34)=W4 at *
 go_wp2_with fail
 refine (qa2 _).mono ?_
 rintro e w5 ⟨rfl,k5⟩
 have S5:=zH ((uI S4).next k5)
 clear k5 S4 a0 a1 a2 a3 a4 a5 hsA z0 z1 zf zl u0 u1 hsN BN4 v0 v1 hsM BM
 obtain⟨z0,z1⟩:=(uI S5).R.at2
 have zf:=(uI S5).R.2.2
 have zl:=(uI S5).R.1
 go_wp2_with fail
 obtain⟨p0,p1⟩:=((uI S5).R.two9 (.int .i64 16) (.bool true)).at2
 exact bodyPost_ret (v:=.tuple #[.int .u64 0,.agg #[.int .i64 16,.bool true],.int .i64 0]) (by simp[results,Tryz.results18,go_sem,p0,p1]) rfl ⟨rfl,zY (uI S5).d (by omega) _ _⟩
theorem rc_land11 (x x0 x1:Ex)(n1 y1 n2 y2:Int)(s1 s2:Bool)(hk:x.k=25)(hkids:x.kids=[x0,x1])(IH0:RcC x0 n1 y1 s1 0)(IH1:RcC x1 n2 y2 s2 0)(h1:(n1 != 0)=true)(h2:(n2 != 0)=true):RcC x 1 16 true 0:=by
 have h1':(n1==0)=false:=by cases hz:(n1==0) <;> simp_all [bne]
 have h2':(n2==0)=false:=by cases hz:(n2==0) <;> simp_all [bne]
 intro B kv w hx hB
 obtain⟨ka,kc,rfl⟩:∃ ao cap,kv=.slice ao x.kids.length cap:=by obtain⟨ao,cap,e,-⟩:=hx.at;exact⟨ao,cap,e⟩
 have S0:=zH (Tv.begin #[.int .i64 0,.bool false] 57 34 hx hB)
 have hl:1≤x.kids.length:=by rw[hkids];simp
 obtain⟨bk,off,kv0,rfl,hbk,hky,c0,c1,c2,c3,c4,c5⟩:=qa4 (uI S0) 0 (by omega)
 have ey0:x.kids[0]'(by omega)=x0:=by simp[hkids]
 rw[ey0] at hky c0 c1 c2 c3 c4
 simp only[Nat.zero_mul,Nat.add_zero] at c0 c1 c2 c3 c4 c5
 have CA:=zH (IH0 _ _ _ hky (uI S0).le)
 obtain⟨a0,a1,a2,a3,a4,a5⟩:=(uI S0).A.six8
 have e1:(x.k==1)=false:=zBq (by omega)
 have e4:¬ x.k≤4:=by omega
 have e5:(x.k==5)=false:=zBq (by omega)
 have e25:(x.k==25)=true:=beq_iff_eq.2 hk
 have e26:(x.k==26)=false:=zBq (by omega)
 have HK:=zH hk
 have hl1:(1:Int)≤(x.kids.length:Int):=by omega
 have hl2:0<x.kids.length:=by omega
 have hl3:((x.kids.length:Int)==1)=false:=by rw[hkids];rfl
 have hl4:(x.kids.length==1)=false:=by rw[hkids];rfl
 have hl5:(2:Int)≤(x.kids.length:Int):=by rw[hkids];simp
 have hl6:1<x.kids.length:=by rw[hkids];simp
 have HKI:=zH hkids
 clear IH0 ey0 hkids
 clear hk
 have hsA:=(uI S0).A.1
 obtain⟨z0,z1⟩:=(uI S0).R.at2
 have zf:=(uI S0).R.2.2
 have zl:=(uI S0).R.1
 have HBB:=zH hB
 clear hx hB
 generalize hW0:(w.alloc (.cells #[.int .i64 x.k,.int .u64 x.n,.int .i64 x.b,.bool x.s,.string x.nm,.slice (some ⟨bk,off,none⟩) x.kids.length kc] 57)).alloc (.cells #[.int .i64 0,.bool false] 34)=W0 at *
 go_enter Tryz.func18,Tryz.ntmps18
 go_wp2_with fail
 refine (uI CA).mono ?_
 rintro e w1 ⟨rfl,k1⟩
 have S1:=zH ((uI S0).next k1)
 have HNE:=zH (uI S1).R.1
 have kN:=qaa w1 (.cells #[.int .i64 y1,.bool s1] 34)
 have BN:=zH (Box.new w1 #[.int .i64 y1,.bool s1] 34)
 have S2:=zH ((uI S1).next kN)
 clear k1 S0 S1 CA c0 c1 c2 c3 c4 c5 a0 a1 a2 a3 a4 a5 hsA z0 z1 zf zl kN hky hbk
 obtain⟨a0,a1,a2,a3,a4,a5⟩:=(uI S2).A.six8
 have hsA:=(uI S2).A.1
 obtain⟨z0,z1⟩:=(uI S2).R.at2
 have zf:=(uI S2).R.2.2
 have zl:=(uI S2).R.1
 obtain⟨u0,u1⟩:=(uI BN).at2
 have hsN:=(uI BN).1
 generalize hW2:w1.alloc (.cells #[.int .i64 y1,.bool s1] 34)=W2 at *
 obtain⟨bk1,off1,kv1,ek1,hbk1,hky1,d0,d1,d2,d3,d4,d5⟩:=qa4 (uI S2) 1 hl6
 have ey1:x.kids[1]'hl6=x1:=by simp[uI HKI]
 rw[ey1] at hky1 d0 d1 d2 d3 d4
 clear ey1
 injection ek1 with ek1
 injection ek1 with ek1 ek2
 subst ek1 ek2
 simp only[Nat.one_mul] at d0 d1 d2 d3 d4 d5
 have CB:=zH (IH1 _ _ _ hky1 (uI S2).le)
 clear IH1
 go_wp2_with fail
 refine (uI CB).mono ?_
 rintro e w3 ⟨rfl,k3⟩
 have S3:=zH ((uI S2).next k3)
 clear HNE
 have HNE:=zH (uI S3).R.1
 have kM:=qaa w3 (.cells #[.int .i64 y2,.bool s2] 34)
 have BM:=zH (Box.new w3 #[.int .i64 y2,.bool s2] 34)
 have BN4:=zH (((uI BN).step k3).step kM)
 have S4:=zH ((uI S3).next kM)
 clear k3 S2 S3 CB d0 d1 d2 d3 d4 d5 a0 a1 a2 a3 a4 a5 hsA z0 z1 zf zl kM hky1 hbk1 u0 u1 hsN BN
 obtain⟨a0,a1,a2,a3,a4,a5⟩:=(uI S4).A.six8
 have hsA:=(uI S4).A.1
 obtain⟨z0,z1⟩:=(uI S4).R.at2
 have zf:=(uI S4).R.2.2
 have zl:=(uI S4).R.1
 obtain⟨u0,u1⟩:=(uI BN4).at2
 have hsN:=(uI BN4).1
 obtain⟨v0,v1⟩:=(uI BM).at2
 have hsM:=(uI BM).1
 generalize hW4:w3.alloc (.cells #[.int .i64 y2,.bool s2] 34)=W4 at *
 go_wp2_with fail
 refine (qa2 _).mono ?_
 rintro e w5 ⟨rfl,k5⟩
 have S5:=zH ((uI S4).next k5)
 clear k5 S4 a0 a1 a2 a3 a4 a5 hsA z0 z1 zf zl u0 u1 hsN BN4 v0 v1 hsM BM
 obtain⟨z0,z1⟩:=(uI S5).R.at2
 have zf:=(uI S5).R.2.2
 have zl:=(uI S5).R.1
 go_wp2_with fail
 obtain⟨p0,p1⟩:=((uI S5).R.two9 (.int .i64 16) (.bool true)).at2
 exact bodyPost_ret (v:=.tuple #[.int .u64 1,.agg #[.int .i64 16,.bool true],.int .i64 0]) (by simp[results,Tryz.results18,go_sem,p0,p1]) rfl ⟨rfl,zY (uI S5).d (by omega) _ _⟩
theorem rc_lor00 (x x0 x1:Ex)(n1 y1 n2 y2:Int)(s1 s2:Bool)(hk:x.k=26)(hkids:x.kids=[x0,x1])(IH0:RcC x0 n1 y1 s1 0)(IH1:RcC x1 n2 y2 s2 0)(h1:(n1 != 0)=false)(h2:(n2 != 0)=false):RcC x 0 16 true 0:=by
 have h1':(n1==0)=true:=by cases hz:(n1==0) <;> simp_all [bne]
 have h2':(n2==0)=true:=by cases hz:(n2==0) <;> simp_all [bne]
 intro B kv w hx hB
 obtain⟨ka,kc,rfl⟩:∃ ao cap,kv=.slice ao x.kids.length cap:=by obtain⟨ao,cap,e,-⟩:=hx.at;exact⟨ao,cap,e⟩
 have S0:=zH (Tv.begin #[.int .i64 0,.bool false] 57 34 hx hB)
 have hl:1≤x.kids.length:=by rw[hkids];simp
 obtain⟨bk,off,kv0,rfl,hbk,hky,c0,c1,c2,c3,c4,c5⟩:=qa4 (uI S0) 0 (by omega)
 have ey0:x.kids[0]'(by omega)=x0:=by simp[hkids]
 rw[ey0] at hky c0 c1 c2 c3 c4
 simp only[Nat.zero_mul,Nat.add_zero] at c0 c1 c2 c3 c4 c5
 have CA:=zH (IH0 _ _ _ hky (uI S0).le)
 obtain⟨a0,a1,a2,a3,a4,a5⟩:=(uI S0).A.six8
 have e1:(x.k==1)=false:=zBq (by omega)
 have e4:¬ x.k≤4:=by omega
 have e5:(x.k==5)=false:=zBq (by omega)
 have e25:(x.k==25)=false:=zBq (by omega)
 have e26:(x.k==26)=true:=beq_iff_eq.2 hk
 have HK:=zH hk
 have hl1:(1:Int)≤(x.kids.length:Int):=by omega
 have hl2:0<x.kids.length:=by omega
 have hl3:((x.kids.length:Int)==1)=false:=by rw[hkids];rfl
 have hl4:(x.kids.length==1)=false:=by rw[hkids];rfl
 have hl5:(2:Int)≤(x.kids.length:Int):=by rw[hkids];simp
 have hl6:1<x.kids.length:=by rw[hkids];simp
 have HKI:=zH hkids
 clear IH0 ey0 hkids
 clear hk
 have hsA:=(uI S0).A.1
 obtain⟨z0,z1⟩:=(uI S0).R.at2
 have zf:=(uI S0).R.2.2
 have zl:=(uI S0).R.1
 have HBB:=zH hB
 clear hx hB
 generalize hW0:(w.alloc (.cells #[.int .i64 x.k,.int .u64 x.n,.int .i64 x.b,.bool x.s,.string x.nm,.slice (some ⟨bk,off,none⟩) x.kids.length kc] 57)).alloc (.cells #[.int .i64 0,.bool false] 34)=W0 at *
 go_enter Tryz.func18,Tryz.ntmps18
 go_wp2_with fail
 refine (uI CA).mono ?_
 rintro e w1 ⟨rfl,k1⟩
 have S1:=zH ((uI S0).next k1)
 have HNE:=zH (uI S1).R.1
 have kN:=qaa w1 (.cells #[.int .i64 y1,.bool s1] 34)
 have BN:=zH (Box.new w1 #[.int .i64 y1,.bool s1] 34)
 have S2:=zH ((uI S1).next kN)
 clear k1 S0 S1 CA c0 c1 c2 c3 c4 c5 a0 a1 a2 a3 a4 a5 hsA z0 z1 zf zl kN hky hbk
 obtain⟨a0,a1,a2,a3,a4,a5⟩:=(uI S2).A.six8
 have hsA:=(uI S2).A.1
 obtain⟨z0,z1⟩:=(uI S2).R.at2
 have zf:=(uI S2).R.2.2
 have zl:=(uI S2).R.1
 obtain⟨u0,u1⟩:=(uI BN).at2
 have hsN:=(uI BN).1
 generalize hW2:w1.alloc (.cells #[.int .i64 y1,.bool s1] 34)=W2 at *
 obtain⟨bk1,off1,kv1,ek1,hbk1,hky1,d0,d1,d2,d3,d4,d5⟩:=qa4 (uI S2) 1 hl6
 have ey1:x.kids[1]'hl6=x1:=by simp[uI HKI]
 rw[ey1] at hky1 d0 d1 d2 d3 d4
 clear ey1
 injection ek1 with ek1
 injection ek1 with ek1 ek2
 subst ek1 ek2
 simp only[Nat.one_mul] at d0 d1 d2 d3 d4 d5
 have CB:=zH (IH1 _ _ _ hky1 (uI S2).le)
 clear IH1
 go_wp2_with fail
 refine (uI CB).mono ?_
 rintro e w3 ⟨rfl,k3⟩
 have S3:=zH ((uI S2).next k3)
 clear HNE
 have HNE:=zH (uI S3).R.1
 have kM:=qaa w3 (.cells #[.int .i64 y2,.bool s2] 34)
 have BM:=zH (Box.new w3 #[.int .i64 y2,.bool s2] 34)
 have BN4:=zH (((uI BN).step k3).step kM)
 have S4:=zH ((uI S3).next kM)
 clear k3 S2 S3 CB d0 d1 d2 d3 d4 d5 a0 a1 a2 a3 a4 a5 hsA z0 z1 zf zl kM hky1 hbk1 u0 u1 hsN BN
 obtain⟨a0,a1,a2,a3,a4,a5⟩:=(uI S4).A.six8
 have hsA:=(uI S4).A.1
 obtain⟨z0,z1⟩:=(uI S4).R.at2
 have zf:=(uI S4).R.2.2
 have zl:=(uI S4).R.1
 obtain⟨u0,u1⟩:=(uI BN4).at2
 have hsN:=(uI BN4).1
 obtain⟨v0,v1⟩:=(uI BM).at2
 have hsM:=(uI BM).1
 generalize hW4:w3.alloc (.cells #[.int .i64 y2,.bool s2] 34)=W4 at *
 go_wp2_with fail
 refine (qa2 _).mono ?_
 rintro e w5 ⟨rfl,k5⟩
 have S5:=zH ((uI S4).next k5)
 clear k5 S4 a0 a1 a2 a3 a4 a5 hsA z0 z1 zf zl u0 u1 hsN BN4 v0 v1 hsM BM
 obtain⟨z0,z1⟩:=(uI S5).R.at2
 have zf:=(uI S5).R.2.2
 have zl:=(uI S5).R.1
 go_wp2_with fail
 obtain⟨p0,p1⟩:=((uI S5).R.two9 (.int .i64 16) (.bool true)).at2
 exact bodyPost_ret (v:=.tuple #[.int .u64 0,.agg #[.int .i64 16,.bool true],.int .i64 0]) (by simp[results,Tryz.results18,go_sem,p0,p1]) rfl ⟨rfl,zY (uI S5).d (by omega) _ _⟩
theorem rc_lor01 (x x0 x1:Ex)(n1 y1 n2 y2:Int)(s1 s2:Bool)(hk:x.k=26)(hkids:x.kids=[x0,x1])(IH0:RcC x0 n1 y1 s1 0)(IH1:RcC x1 n2 y2 s2 0)(h1:(n1 != 0)=false)(h2:(n2 != 0)=true):RcC x 1 16 true 0:=by
 have h1':(n1==0)=true:=by cases hz:(n1==0) <;> simp_all [bne]
 have h2':(n2==0)=false:=by cases hz:(n2==0) <;> simp_all [bne]
 intro B kv w hx hB
 obtain⟨ka,kc,rfl⟩:∃ ao cap,kv=.slice ao x.kids.length cap:=by obtain⟨ao,cap,e,-⟩:=hx.at;exact⟨ao,cap,e⟩
 have S0:=zH (Tv.begin #[.int .i64 0,.bool false] 57 34 hx hB)
 have hl:1≤x.kids.length:=by rw[hkids];simp
 obtain⟨bk,off,kv0,rfl,hbk,hky,c0,c1,c2,c3,c4,c5⟩:=qa4 (uI S0) 0 (by omega)
 have ey0:x.kids[0]'(by omega)=x0:=by simp[hkids]
 rw[ey0] at hky c0 c1 c2 c3 c4
 simp only[Nat.zero_mul,Nat.add_zero] at c0 c1 c2 c3 c4 c5
 have CA:=zH (IH0 _ _ _ hky (uI S0).le)
 obtain⟨a0,a1,a2,a3,a4,a5⟩:=(uI S0).A.six8
 have e1:(x.k==1)=false:=zBq (by omega)
 have e4:¬ x.k≤4:=by omega
 have e5:(x.k==5)=false:=zBq (by omega)
 have e25:(x.k==25)=false:=zBq (by omega)
 have e26:(x.k==26)=true:=beq_iff_eq.2 hk
 have HK:=zH hk
 have hl1:(1:Int)≤(x.kids.length:Int):=by omega
 have hl2:0<x.kids.length:=by omega
 have hl3:((x.kids.length:Int)==1)=false:=by rw[hkids];rfl
 have hl4:(x.kids.length==1)=false:=by rw[hkids];rfl
 have hl5:(2:Int)≤(x.kids.length:Int):=by rw[hkids];simp
 have hl6:1<x.kids.length:=by rw[hkids];simp
 have HKI:=zH hkids
 clear IH0 ey0 hkids
 clear hk
 have hsA:=(uI S0).A.1
 obtain⟨z0,z1⟩:=(uI S0).R.at2
 have zf:=(uI S0).R.2.2
 have zl:=(uI S0).R.1
 have HBB:=zH hB
 clear hx hB
 generalize hW0:(w.alloc (.cells #[.int .i64 x.k,.int .u64 x.n,.int .i64 x.b,.bool x.s,.string x.nm,.slice (some ⟨bk,off,none⟩) x.kids.length kc] 57)).alloc (.cells #[.int .i64 0,.bool false] 34)=W0 at *
 go_enter Tryz.func18,Tryz.ntmps18
 go_wp2_with fail
 refine (uI CA).mono ?_
 rintro e w1 ⟨rfl,k1⟩
 have S1:=zH ((uI S0).next k1)
 have HNE:=zH (uI S1).R.1
 have kN:=qaa w1 (.cells #[.int .i64 y1,.bool s1] 34)
 have BN:=zH (Box.new w1 #[.int .i64 y1,.bool s1] 34)
 have S2:=zH ((uI S1).next kN)
 clear k1 S0 S1 CA c0 c1 c2 c3 c4 c5 a0 a1 a2 a3 a4 a5 hsA z0 z1 zf zl kN hky hbk
 obtain⟨a0,a1,a2,a3,a4,a5⟩:=(uI S2).A.six8
 have hsA:=(uI S2).A.1
 obtain⟨z0,z1⟩:=(uI S2).R.at2
 have zf:=(uI S2).R.2.2
 have zl:=(uI S2).R.1
 obtain⟨u0,u1⟩:=(uI BN).at2
 have hsN:=(uI BN).1
 generalize hW2:w1.alloc (.cells #[.int .i64 y1,.bool s1] 34)=W2 at *
 obtain⟨bk1,off1,kv1,ek1,hbk1,hky1,d0,d1,d2,d3,d4,d5⟩:=qa4 (uI S2) 1 hl6
 have ey1:x.kids[1]'hl6=x1:=by simp[uI HKI]
 rw[ey1] at hky1 d0 d1 d2 d3 d4
 clear ey1
 injection ek1 with ek1
 injection ek1 with ek1 ek2
 subst ek1 ek2
 simp only[Nat.one_mul] at d0 d1 d2 d3 d4 d5
 have CB:=zH (IH1 _ _ _ hky1 (uI S2).le)
 clear IH1
 go_wp2_with fail
 refine (uI CB).mono ?_
 rintro e w3 ⟨rfl,k3⟩
 have S3:=zH ((uI S2).next k3)
 clear HNE
 have HNE:=zH (uI S3).R.1
 have kM:=qaa w3 (.cells #[.int .i64 y2,.bool s2] 34)
 have BM:=zH (Box.new w3 #[.int .i64 y2,.bool s2] 34)
 have BN4:=zH (((uI BN).step k3).step kM)
 have S4:=zH ((uI S3).next kM)
 clear k3 S2 S3 CB d0 d1 d2 d3 d4 d5 a0 a1 a2 a3 a4 a5 hsA z0 z1 zf zl kM hky1 hbk1 u0 u1 hsN BN
 obtain⟨a0,a1,a2,a3,a4,a5⟩:=(uI S4).A.six8
 have hsA:=(uI S4).A.1
 obtain⟨z0,z1⟩:=(uI S4).R.at2
 have zf:=(uI S4).R.2.2
 have zl:=(uI S4).R.1
 obtain⟨u0,u1⟩:=(uI BN4).at2
 have hsN:=(uI BN4).1
 obtain⟨v0,v1⟩:=(uI BM).at2
 have hsM:=(uI BM).1
 generalize hW4:w3.alloc (.cells #[.int .i64 y2,.bool s2] 34)=W4 at *
 go_wp2_with fail
 refine (qa2 _).mono ?_
 rintro e w5 ⟨rfl,k5⟩
 have S5:=zH ((uI S4).next k5)
 clear k5 S4 a0 a1 a2 a3 a4 a5 hsA z0 z1 zf zl u0 u1 hsN BN4 v0 v1 hsM BM
 obtain⟨z0,z1⟩:=(uI S5).R.at2
 have zf:=(uI S5).R.2.2
 have zl:=(uI S5).R.1
 go_wp2_with fail
 obtain⟨p0,p1⟩:=((uI S5).R.two9 (.int .i64 16) (.bool true)).at2
 exact bodyPost_ret (v:=.tuple #[.int .u64 1,.agg #[.int .i64 16,.bool true],.int .i64 0]) (by simp[results,Tryz.results18,go_sem,p0,p1]) rfl ⟨rfl,zY (uI S5).d (by omega) _ _⟩
theorem rc_lor10 (x x0 x1:Ex)(n1 y1 n2 y2:Int)(s1 s2:Bool)(hk:x.k=26)(hkids:x.kids=[x0,x1])(IH0:RcC x0 n1 y1 s1 0)(IH1:RcC x1 n2 y2 s2 0)(h1:(n1 != 0)=true)(h2:(n2 != 0)=false):RcC x 1 16 true 0:=by
 have h1':(n1==0)=false:=by cases hz:(n1==0) <;> simp_all [bne]
 have h2':(n2==0)=true:=by cases hz:(n2==0) <;> simp_all [bne]
 intro B kv w hx hB
 obtain⟨ka,kc,rfl⟩:∃ ao cap,kv=.slice ao x.kids.length cap:=by obtain⟨ao,cap,e,-⟩:=hx.at;exact⟨ao,cap,e⟩
 have S0:=zH (Tv.begin #[.int .i64 0,.bool false] 57 34 hx hB)
 have hl:1≤x.kids.length:=by rw[hkids];simp
 obtain⟨bk,off,kv0,rfl,hbk,hky,c0,c1,c2,c3,c4,c5⟩:=qa4 (uI S0) 0 (by omega)
 have ey0:x.kids[0]'(by omega)=x0:=by simp[hkids]
 rw[ey0] at hky c0 c1 c2 c3 c4
 simp only[Nat.zero_mul,Nat.add_zero] at c0 c1 c2 c3 c4 c5
 have CA:=zH (IH0 _ _ _ hky (uI S0).le)
 obtain⟨a0,a1,a2,a3,a4,a5⟩:=(uI S0).A.six8
 have e1:(x.k==1)=false:=zBq (by omega)
 have e4:¬ x.k≤4:=by omega
 have e5:(x.k==5)=false:=zBq (by omega)
 have e25:(x.k==25)=false:=zBq (by omega)
 have e26:(x.k==26)=true:=beq_iff_eq.2 hk
 have HK:=zH hk
 have hl1:(1:Int)≤(x.kids.length:Int):=by omega
 have hl2:0<x.kids.length:=by omega
 have hl3:((x.kids.length:Int)==1)=false:=by rw[hkids];rfl
 have hl4:(x.kids.length==1)=false:=by rw[hkids];rfl
 have hl5:(2:Int)≤(x.kids.length:Int):=by rw[hkids];simp
 have hl6:1<x.kids.length:=by rw[hkids];simp
 have HKI:=zH hkids
 clear IH0 ey0 hkids
 clear hk
 have hsA:=(uI S0).A.1
 obtain⟨z0,z1⟩:=(uI S0).R.at2
 have zf:=(uI S0).R.2.2
 have zl:=(uI S0).R.1
 have HBB:=zH hB
 clear hx hB
 generalize hW0:(w.alloc (.cells #[.int .i64 x.k,.int .u64 x.n,.int .i64 x.b,.bool x.s,.string x.nm,.slice (some ⟨bk,off,none⟩) x.kids.length kc] 57)).alloc (.cells #[.int .i64 0,.bool false] 34)=W0 at *
 go_enter Tryz.func18,Tryz.ntmps18
 go_wp2_with fail
 refine (uI CA).mono ?_
 rintro e w1 ⟨rfl,k1⟩
 have S1:=zH ((uI S0).next k1)
 have HNE:=zH (uI S1).R.1
 have kN:=qaa w1 (.cells #[.int .i64 y1,.bool s1] 34)
 have BN:=zH (Box.new w1 #[.int .i64 y1,.bool s1] 34)
 have S2:=zH ((uI S1).next kN)
 clear k1 S0 S1 CA c0 c1 c2 c3 c4 c5 a0 a1 a2 a3 a4 a5 hsA z0 z1 zf zl kN hky hbk
 obtain⟨a0,a1,a2,a3,a4,a5⟩:=(uI S2).A.six8
 have hsA:=(uI S2).A.1
 obtain⟨z0,z1⟩:=(uI S2).R.at2
 have zf:=(uI S2).R.2.2
 have zl:=(uI S2).R.1
 obtain⟨u0,u1⟩:=(uI BN).at2
 have hsN:=(uI BN).1
 generalize hW2:w1.alloc (.cells #[.int .i64 y1,.bool s1] 34)=W2 at *
 obtain⟨bk1,off1,kv1,ek1,hbk1,hky1,d0,d1,d2,d3,d4,d5⟩:=qa4 (uI S2) 1 hl6
 have ey1:x.kids[1]'hl6=x1:=by simp[uI HKI]
 rw[ey1] at hky1 d0 d1 d2 d3 d4
 clear ey1
 injection ek1 with ek1
 injection ek1 with ek1 ek2
 subst ek1 ek2
 simp only[Nat.one_mul] at d0 d1 d2 d3 d4 d5
 have CB:=zH (IH1 _ _ _ hky1 (uI S2).le)
 clear IH1
 go_wp2_with fail
 refine (uI CB).mono ?_
 rintro e w3 ⟨rfl,k3⟩
 have S3:=zH ((uI S2).next k3)
 clear HNE
 have HNE:=zH (uI S3).R.1
 have kM:=qaa w3 (.cells #[.int .i64 y2,.bool s2] 34)
 have BM:=zH (Box.new w3 #[.int .i64 y2,.bool s2] 34)
 have BN4:=zH (((uI BN).step k3).step kM)
 have S4:=zH ((uI S3).next kM)
 clear k3 S2 S3 CB d0 d1 d2 d3 d4 d5 a0 a1 a2 a3 a4 a5 hsA z0 z1 zf zl kM hky1 hbk1 u0 u1 hsN BN
 obtain⟨a0,a1,a2,a3,a4,a5⟩:=(uI S4).A.six8
 have hsA:=(uI S4).A.1
 obtain⟨z0,z1⟩:=(uI S4).R.at2
 have zf:=(uI S4).R.2.2
 have zl:=(uI S4).R.1
 obtain⟨u0,u1⟩:=(uI BN4).at2
 have hsN:=(uI BN4).1
 obtain⟨v0,v1⟩:=(uI BM).at2
 have hsM:=(uI BM).1
 generalize hW4:w3.alloc (.cells #[.int .i64 y2,.bool s2] 34)=W4 at *
 go_wp2_with fail
 refine (qa2 _).mono ?_
 rintro e w5 ⟨rfl,k5⟩
 have S5:=zH ((uI S4).next k5)
 clear k5 S4 a0 a1 a2 a3 a4 a5 hsA z0 z1 zf zl u0 u1 hsN BN4 v0 v1 hsM BM
 obtain⟨z0,z1⟩:=(uI S5).R.at2
 have zf:=(uI S5).R.2.2
 have zl:=(uI S5).R.1
 go_wp2_with fail
 obtain⟨p0,p1⟩:=((uI S5).R.two9 (.int .i64 16) (.bool true)).at2
 exact bodyPost_ret (v:=.tuple #[.int .u64 1,.agg #[.int .i64 16,.bool true],.int .i64 0]) (by simp[results,Tryz.results18,go_sem,p0,p1]) rfl ⟨rfl,zY (uI S5).d (by omega) _ _⟩
theorem rc_lor11 (x x0 x1:Ex)(n1 y1 n2 y2:Int)(s1 s2:Bool)(hk:x.k=26)(hkids:x.kids=[x0,x1])(IH0:RcC x0 n1 y1 s1 0)(IH1:RcC x1 n2 y2 s2 0)(h1:(n1 != 0)=true)(h2:(n2 != 0)=true):RcC x 1 16 true 0:=by
 have h1':(n1==0)=false:=by cases hz:(n1==0) <;> simp_all [bne]
 have h2':(n2==0)=false:=by cases hz:(n2==0) <;> simp_all [bne]
 intro B kv w hx hB
 obtain⟨ka,kc,rfl⟩:∃ ao cap,kv=.slice ao x.kids.length cap:=by obtain⟨ao,cap,e,-⟩:=hx.at;exact⟨ao,cap,e⟩
 have S0:=zH (Tv.begin #[.int .i64 0,.bool false] 57 34 hx hB)
 have hl:1≤x.kids.length:=by rw[hkids];simp
 obtain⟨bk,off,kv0,rfl,hbk,hky,c0,c1,c2,c3,c4,c5⟩:=qa4 (uI S0) 0 (by omega)
 have ey0:x.kids[0]'(by omega)=x0:=by simp[hkids]
 rw[ey0] at hky c0 c1 c2 c3 c4
 simp only[Nat.zero_mul,Nat.add_zero] at c0 c1 c2 c3 c4 c5
 have CA:=zH (IH0 _ _ _ hky (uI S0).le)
 obtain⟨a0,a1,a2,a3,a4,a5⟩:=(uI S0).A.six8
 have e1:(x.k==1)=false:=zBq (by omega)
 have e4:¬ x.k≤4:=by omega
 have e5:(x.k==5)=false:=zBq (by omega)
 have e25:(x.k==25)=false:=zBq (by omega)
 have e26:(x.k==26)=true:=beq_iff_eq.2 hk
 have HK:=zH hk
 have hl1:(1:Int)≤(x.kids.length:Int):=by omega
 have hl2:0<x.kids.length:=by omega
 have hl3:((x.kids.length:Int)==1)=false:=by rw[hkids];rfl
 have hl4:(x.kids.length==1)=false:=by rw[hkids];rfl
 have hl5:(2:Int)≤(x.kids.length:Int):=by rw[hkids];simp
 have hl6:1<x.kids.length:=by rw[hkids];simp
 have HKI:=zH hkids
 clear IH0 ey0 hkids
 clear hk
 have hsA:=(uI S0).A.1
 obtain⟨z0,z1⟩:=(uI S0).R.at2
 have zf:=(uI S0).R.2.2
 have zl:=(uI S0).R.1
 have HBB:=zH hB
 clear hx hB
 generalize hW0:(w.alloc (.cells #[.int .i64 x.k,.int .u64 x.n,.int .i64 x.b,.bool x.s,.string x.nm,.slice (some ⟨bk,off,none⟩) x.kids.length kc] 57)).alloc (.cells #[.int .i64 0,.bool false] 34)=W0 at *
 go_enter Tryz.func18,Tryz.ntmps18
 go_wp2_with fail
 refine (uI CA).mono ?_
 rintro e w1 ⟨rfl,k1⟩
 have S1:=zH ((uI S0).next k1)
 have HNE:=zH (uI S1).R.1
 have kN:=qaa w1 (.cells #[.int .i64 y1,.bool s1] 34)
 have BN:=zH (Box.new w1 #[.int .i64 y1,.bool s1] 34)
 have S2:=zH ((uI S1).next kN)
 clear k1 S0 S1 CA c0 c1 c2 c3 c4 c5 a0 a1 a2 a3 a4 a5 hsA z0 z1 zf zl kN hky hbk
 obtain⟨a0,a1,a2,a3,a4,a5⟩:=(uI S2).A.six8
 have hsA:=(uI S2).A.1
 obtain⟨z0,z1⟩:=(uI S2).R.at2
 have zf:=(uI S2).R.2.2
 have zl:=(uI S2).R.1
 obtain⟨u0,u1⟩:=(uI BN).at2
 have hsN:=(uI BN).1
 generalize hW2:w1.alloc (.cells #[.int .i64 y1,.bool s1] 34)=W2 at *
 obtain⟨bk1,off1,kv1,ek1,hbk1,hky1,d0,d1,d2,d3,d4,d5⟩:=qa4 (uI S2) 1 hl6
 have ey1:x.kids[1]'hl6=x1:=by simp[uI HKI]
 rw[ey1] at hky1 d0 d1 d2 d3 d4
 clear ey1
 injection ek1 with ek1
 injection ek1 with ek1 ek2
 subst ek1 ek2
 simp only[Nat.one_mul] at d0 d1 d2 d3 d4 d5
 have CB:=zH (IH1 _ _ _ hky1 (uI S2).le)
 clear IH1
 go_wp2_with fail
 refine (uI CB).mono ?_
 rintro e w3 ⟨rfl,k3⟩
 have S3:=zH ((uI S2).next k3)
 clear HNE
 have HNE:=zH (uI S3).R.1
 have kM:=qaa w3 (.cells #[.int .i64 y2,.bool s2] 34)
 have BM:=zH (Box.new w3 #[.int .i64 y2,.bool s2] 34)
 have BN4:=zH (((uI BN).step k3).step kM)
 have S4:=zH ((uI S3).next kM)
 clear k3 S2 S3 CB d0 d1 d2 d3 d4 d5 a0 a1 a2 a3 a4 a5 hsA z0 z1 zf zl kM hky1 hbk1 u0 u1 hsN BN
 obtain⟨a0,a1,a2,a3,a4,a5⟩:=(uI S4).A.six8
 have hsA:=(uI S4).A.1
 obtain⟨z0,z1⟩:=(uI S4).R.at2
 have zf:=(uI S4).R.2.2
 have zl:=(uI S4).R.1
 obtain⟨u0,u1⟩:=(uI BN4).at2
 have hsN:=(uI BN4).1
 obtain⟨v0,v1⟩:=(uI BM).at2
 have hsM:=(uI BM).1
 generalize hW4:w3.alloc (.cells #[.int .i64 y2,.bool s2] 34)=W4 at *
 go_wp2_with fail
 refine (qa2 _).mono ?_
 rintro e w5 ⟨rfl,k5⟩
 have S5:=zH ((uI S4).next k5)
 clear k5 S4 a0 a1 a2 a3 a4 a5 hsA z0 z1 zf zl u0 u1 hsN BN4 v0 v1 hsM BM
 obtain⟨z0,z1⟩:=(uI S5).R.at2
 have zf:=(uI S5).R.2.2
 have zl:=(uI S5).R.1
 go_wp2_with fail
 obtain⟨p0,p1⟩:=((uI S5).R.two9 (.int .i64 16) (.bool true)).at2
 exact bodyPost_ret (v:=.tuple #[.int .u64 1,.agg #[.int .i64 16,.bool true],.int .i64 0]) (by simp[results,Tryz.results18,go_sem,p0,p1]) rfl ⟨rfl,zY (uI S5).d (by omega) _ _⟩
end Go.Proofs.YtjpnnmkefaodoaaGreat
