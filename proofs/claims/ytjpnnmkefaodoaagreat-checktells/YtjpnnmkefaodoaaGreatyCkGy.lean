/-
  CkG.
-/
import Derived.Test.YtjpnnmkefaodoaaGreatyCcPy
set_option maxHeartbeats 8000000
set_option maxRecDepth 100000
namespace Go.Proofs.YtjpnnmkefaodoaaGreat
open Go.RowKit Go.Maps
set_option linter.unusedSimpArgs false
set_option linter.unusedVariables false
def tyF (E:Nev)(L:Loc)(x:Ex)(ts:List (Int × Bool)):(Int × Bool) × Int:=if x.k=2∨x.k=3 then askC E L x.nm (decide (x.k=3)) else (tyO x.k x.b x.s ts,0)
theorem tyE_kids (E:Nev)(L:Loc)(x:Ex)(h4:x.k≠4):tyE E L x=if (tyEs E L x.kids).2≠0 then ((0,false),(tyEs E L x.kids).2) else tyF E L x (tyEs E L x.kids).1:=by
 obtain⟨k,n,b,s,nm,kids⟩:=x
 have h4:k≠4:=h4
 rw[tyE,if_neg h4]
 have e1:(Ex.mk k n b s nm kids).kids=kids:=rfl
 rw[e1]
 by_cases h:(tyEs E L kids).2=0
 ·rw[if_neg (show ¬ (tyEs E L kids).2≠0 by simp[h]),if_neg (show ¬ (tyEs E L kids).2≠0 by simp[h])]
  rfl
 ·rw[if_pos (show (tyEs E L kids).2≠0 from h),if_pos (show (tyEs E L kids).2≠0 from h)]
structure Tk9 (B:Nat)(w W:World)(sb vb fb lb:Nat)(wd:Int)(E:Nev)(L:Loc)(res:Int × Bool)(lp:Nat)(x:Ex)(ka:Option Addr)(kc:Nat)(va:Option Addr)(vc:Nat)(ts:List (Int × Bool)):Prop where
 s:Tv w W B x ka kc [.int .i64 0,.bool false]
 sc:Sc B W sb vb fb lb wd E L res lp
 l:Lies W 2 (.slice va ts.length vc) ts.length (ts.flatMap c2T)
theorem Tk9.next {B:Nat}{w W W':World}{sb vb fb lb:Nat}{wd:Int}{E:Nev}{L:Loc}{res:Int × Bool}{lp:Nat}{x:Ex}{ka:Option Addr}{kc:Nat}{va:Option Addr}{vc:Nat}{ts:List (Int × Bool)}(h:Tk9 B w W sb vb fb lb wd E L res lp x ka kc va vc ts)(k:Below W.heap.size W W'):Tk9 B w W' sb vb fb lb wd E L res lp x ka kc va vc ts:=⟨h.s.next k,h.sc.step k,h.l.step k⟩
theorem Tk9.spot {B:Nat}{w W:World}{sb vb fb lb:Nat}{wd:Int}{E:Nev}{L:Loc}{res:Int × Bool}{lp:Nat}{x:Ex}{ka:Option Addr}{kc:Nat}{va:Option Addr}{vc:Nat}{ts:List (Int × Bool)}(h:Tk9 B w W sb vb fb lb wd E L res lp x ka kc va vc ts)(hn:ts≠[]):∃ b off,va=some ⟨b,off,none⟩∧b<W.heap.size∧∀ j,j<ts.length*2→W.cell? ⟨b,off+j,none⟩=(ts.flatMap c2T)[j]?:=by
 obtain⟨_,ao,cap,e,_,_,_,h5⟩:=h.l
 injection e with e1 _ e3
 obtain⟨b,off,e2,h6,h7⟩:=h5 (fun e=>hn (List.length_eq_zero_iff.1 e))
 exact⟨b,off,e1.trans e2,h6,h7⟩
theorem len_two {α:Type}{l:List α}(h:l.length=2):∃ a b,l=[a,b]:=by
 match l,h with
 | [a,b],_=>exact⟨a,b,rfl⟩
theorem ty_bad (x:Ex)(IH:∀ y∈x.kids,TyC y)(h4:x.k≠4)(hlen:x.kids.length≤100)(B:Nat)(w:World)(sb vb fb lb:Nat)(wd:Int)(E:Nev)(L:Loc)(res:Int × Bool)(lp:Nat)(kv:Value)(h:Sc B w sb vb fb lb wd E L res lp)(hx:ExL B w kv x.kids)(hf:ExF x)(HGB0:(tyEs E L x.kids).2≠0) :
  Calls Tryz.prog 92 #[.pointer (some ⟨sb,0,none⟩),.agg #[.int .i64 x.k,.int .u64 x.n,.int .i64 x.b,.bool x.s,.string x.nm,kv]] w fun e w'=>e=.returned (.tuple #[.agg #[.int .i64 (tyE E L x).1.1,.bool (tyE E L x).1.2],.int .i64 (tyE E L x).2])∧Below w.heap.size w w':=by
 obtain⟨ka,kc,rfl⟩:∃ ao cap,kv=.slice ao x.kids.length cap:=by obtain⟨ao,cap,e,-⟩:=hx.at;exact⟨ao,cap,e⟩
 obtain⟨R,hR⟩:∃ R,R=tyE E L x:=⟨_,rfl⟩
 rw[← hR]
 rw[tyE_kids E L x h4] at hR
 have S0:=zH (Tv.begin #[.int .i64 0,.bool false] 57 34 hx h.hB)
 have SC0:=zH (h.step (uI S0).d)
 have hnm:=hf.2
 have CT:=zH (qar x.kids IH hlen B _ sb vb fb lb wd E L res lp _ (uI SC0) (uI S0).hk)
 have TL:=qbk E L x.kids
 have e4:(x.k==4)=false:=zBq h4
 obtain⟨a0,a1,a2,a3,a4,a5⟩:=(uI S0).A.six8
 have hsA:=(uI S0).A.1
 obtain⟨z0,z1⟩:=(uI S0).R.at2
 have zf:=(uI S0).R.2.2
 have zl:=(uI S0).R.1
 clear h hx IH hf h4
 generalize tyEs E L x.kids=T at *
 obtain⟨ts,er⟩:=T
 dsimp only at hR TL
 have hs2:((w.alloc (.cells #[.int .i64 x.k,.int .u64 x.n,.int .i64 x.b,.bool x.s,.string x.nm,.slice ka x.kids.length kc] 57)).alloc (.cells #[.int .i64 0,.bool false] 34)).heap.size=w.heap.size+2:=by simp
 have HS2:=zH hs2
 clear hs2
 generalize hW0:(w.alloc (.cells #[.int .i64 x.k,.int .u64 x.n,.int .i64 x.b,.bool x.s,.string x.nm,.slice ka x.kids.length kc] 57)).alloc (.cells #[.int .i64 0,.bool false] 34)=W0 at *
 have HRR:=zH hR
 have HTL:=zH TL
 have HGB:=zH HGB0
 clear hR TL HGB0
 go_enter Tryz.func92,Tryz.ntmps92
 go_wp2_with fail
 refine (uI CT).mono ?_
 rintro e w3 ⟨v',rfl,hlv,k3,hvn⟩
 have HVN:=zH (show ∀ c,v'.ownBlock=some c→w.heap.size+2≤c from fun c hc=>by rw[← uI HS2];exact hvn c hc)
 clear hvn HS2
 obtain⟨va,vc,rfl⟩:∃ va vc,v'=.slice va ts.length vc:=by obtain⟨-,va,vc,e,-⟩:=hlv;exact⟨va,vc,e⟩
 have S1:=zH (show Tk9 B w w3 sb vb fb lb wd E L res lp x ka kc va vc ts from⟨(uI S0).next k3,(uI SC0).step k3,hlv⟩)
 clear k3 S0 SC0 hlv CT a0 a1 a2 a3 a4 a5 hsA z0 z1 zf zl
 obtain⟨a0,a1,a2,a3,a4,a5⟩:=(uI S1).s.A.six8
 have hsA:=(uI S1).s.A.1
 obtain⟨z0,z1⟩:=(uI S1).s.R.at2
 have zf:=(uI S1).s.R.2.2
 have zl:=(uI S1).s.R.1
 have hbad:er≠0:=uI HGB
 obtain rfl:R=((0,false),er):=by rw[uI HRR,if_pos hbad]
 have he:(er != 0)=true:=bne_iff_ne.2 hbad
 clear hbad HTL HGB
 go_wp2_with fail
 obtain⟨p0,p1⟩:=((uI S1).s.R.two9 (.int .i64 0) (.bool false)).at2
 exact bodyPost_ret (v:=.tuple #[.agg #[.int .i64 0,.bool false],.int .i64 er]) (by simp[results,Tryz.results92,go_sem,p0,p1]) rfl ⟨rfl,zY (uI S1).s.d (by omega) _ _⟩
theorem ty_1 (x:Ex)(IH:∀ y∈x.kids,TyC y)(h4:x.k≠4)(hlen:x.kids.length≤100)(HK9:Hid (x.k=1∧x.kids.length=0))(B:Nat)(w:World)(sb vb fb lb:Nat)(wd:Int)(E:Nev)(L:Loc)(res:Int × Bool)(lp:Nat)(kv:Value)(h:Sc B w sb vb fb lb wd E L res lp)(hx:ExL B w kv x.kids)(hf:ExF x)(HGB0:(tyEs E L x.kids).2=0) :
  Calls Tryz.prog 92 #[.pointer (some ⟨sb,0,none⟩),.agg #[.int .i64 x.k,.int .u64 x.n,.int .i64 x.b,.bool x.s,.string x.nm,kv]] w fun e w'=>e=.returned (.tuple #[.agg #[.int .i64 (tyE E L x).1.1,.bool (tyE E L x).1.2],.int .i64 (tyE E L x).2])∧Below w.heap.size w w':=by
 obtain⟨ka,kc,rfl⟩:∃ ao cap,kv=.slice ao x.kids.length cap:=by obtain⟨ao,cap,e,-⟩:=hx.at;exact⟨ao,cap,e⟩
 obtain⟨R,hR⟩:∃ R,R=tyE E L x:=⟨_,rfl⟩
 rw[← hR]
 rw[tyE_kids E L x h4] at hR
 have S0:=zH (Tv.begin #[.int .i64 0,.bool false] 57 34 hx h.hB)
 have SC0:=zH (h.step (uI S0).d)
 have hnm:=hf.2
 have CT:=zH (qar x.kids IH hlen B _ sb vb fb lb wd E L res lp _ (uI SC0) (uI S0).hk)
 have TL:=qbk E L x.kids
 have e4:(x.k==4)=false:=zBq h4
 obtain⟨a0,a1,a2,a3,a4,a5⟩:=(uI S0).A.six8
 have hsA:=(uI S0).A.1
 obtain⟨z0,z1⟩:=(uI S0).R.at2
 have zf:=(uI S0).R.2.2
 have zl:=(uI S0).R.1
 clear h hx IH hf h4
 generalize tyEs E L x.kids=T at *
 obtain⟨ts,er⟩:=T
 dsimp only at hR TL
 have hs2:((w.alloc (.cells #[.int .i64 x.k,.int .u64 x.n,.int .i64 x.b,.bool x.s,.string x.nm,.slice ka x.kids.length kc] 57)).alloc (.cells #[.int .i64 0,.bool false] 34)).heap.size=w.heap.size+2:=by simp
 have HS2:=zH hs2
 clear hs2
 generalize hW0:(w.alloc (.cells #[.int .i64 x.k,.int .u64 x.n,.int .i64 x.b,.bool x.s,.string x.nm,.slice ka x.kids.length kc] 57)).alloc (.cells #[.int .i64 0,.bool false] 34)=W0 at *
 have HRR:=zH hR
 have HTL:=zH TL
 have HGB:=zH HGB0
 clear hR TL HGB0
 go_enter Tryz.func92,Tryz.ntmps92
 go_wp2_with fail
 refine (uI CT).mono ?_
 rintro e w3 ⟨v',rfl,hlv,k3,hvn⟩
 have HVN:=zH (show ∀ c,v'.ownBlock=some c→w.heap.size+2≤c from fun c hc=>by rw[← uI HS2];exact hvn c hc)
 clear hvn HS2
 obtain⟨va,vc,rfl⟩:∃ va vc,v'=.slice va ts.length vc:=by obtain⟨-,va,vc,e,-⟩:=hlv;exact⟨va,vc,e⟩
 have S1:=zH (show Tk9 B w w3 sb vb fb lb wd E L res lp x ka kc va vc ts from⟨(uI S0).next k3,(uI SC0).step k3,hlv⟩)
 clear k3 S0 SC0 hlv CT a0 a1 a2 a3 a4 a5 hsA z0 z1 zf zl
 obtain⟨a0,a1,a2,a3,a4,a5⟩:=(uI S1).s.A.six8
 have hsA:=(uI S1).s.A.1
 obtain⟨z0,z1⟩:=(uI S1).s.R.at2
 have zf:=(uI S1).s.R.2.2
 have zl:=(uI S1).s.R.1
 have hg:er=0:=uI HGB
 subst hg
 have TL:=uI HTL rfl
 have hR:=uI HRR
 rw[if_neg (by decide)] at hR
 clear HGB HRR HTL
 obtain⟨hk,hkl⟩:=uI HK9
 obtain rfl:R=((x.b,x.s),0):=by
  rw[hR]
  unfold tyF
  rw[if_neg (by omega),hk]
  rw[hkl] at TL
  obtain rfl:=List.eq_nil_of_length_eq_zero TL
  rfl
 have e1:(x.k==1)=true:=beq_iff_eq.2 hk
 have e5:(x.k==5)=false:=zBq (by omega)
 have e2:(x.k==2)=false:=zBq (by omega)
 have e3:(x.k==3)=false:=zBq (by omega)
 have e6:(x.k==6)=false:=zBq (by omega)
 have e7:(x.k==7)=false:=zBq (by omega)
 have e8:(x.k==8)=false:=zBq (by omega)
 have e25:(x.k==25)=false:=zBq (by omega)
 have e26:(x.k==26)=false:=zBq (by omega)
 clear hk hkl hR TL
 go_wp2_with fail
 obtain⟨p0,p1⟩:=((uI S1).s.R.two9 (.int .i64 x.b) (.bool x.s)).at2
 exact bodyPost_ret (v:=.tuple #[.agg #[.int .i64 x.b,.bool x.s],.int .i64 0]) (by simp[results,Tryz.results92,go_sem,p0,p1]) rfl ⟨rfl,zY (uI S1).s.d (by omega) _ _⟩
theorem ty_5 (x:Ex)(IH:∀ y∈x.kids,TyC y)(h4:x.k≠4)(hlen:x.kids.length≤100)(HK9:Hid (x.k=5∧x.kids.length=1))(B:Nat)(w:World)(sb vb fb lb:Nat)(wd:Int)(E:Nev)(L:Loc)(res:Int × Bool)(lp:Nat)(kv:Value)(h:Sc B w sb vb fb lb wd E L res lp)(hx:ExL B w kv x.kids)(hf:ExF x)(HGB0:(tyEs E L x.kids).2=0) :
  Calls Tryz.prog 92 #[.pointer (some ⟨sb,0,none⟩),.agg #[.int .i64 x.k,.int .u64 x.n,.int .i64 x.b,.bool x.s,.string x.nm,kv]] w fun e w'=>e=.returned (.tuple #[.agg #[.int .i64 (tyE E L x).1.1,.bool (tyE E L x).1.2],.int .i64 (tyE E L x).2])∧Below w.heap.size w w':=by
 obtain⟨ka,kc,rfl⟩:∃ ao cap,kv=.slice ao x.kids.length cap:=by obtain⟨ao,cap,e,-⟩:=hx.at;exact⟨ao,cap,e⟩
 obtain⟨R,hR⟩:∃ R,R=tyE E L x:=⟨_,rfl⟩
 rw[← hR]
 rw[tyE_kids E L x h4] at hR
 have S0:=zH (Tv.begin #[.int .i64 0,.bool false] 57 34 hx h.hB)
 have SC0:=zH (h.step (uI S0).d)
 have hnm:=hf.2
 have CT:=zH (qar x.kids IH hlen B _ sb vb fb lb wd E L res lp _ (uI SC0) (uI S0).hk)
 have TL:=qbk E L x.kids
 have e4:(x.k==4)=false:=zBq h4
 obtain⟨a0,a1,a2,a3,a4,a5⟩:=(uI S0).A.six8
 have hsA:=(uI S0).A.1
 obtain⟨z0,z1⟩:=(uI S0).R.at2
 have zf:=(uI S0).R.2.2
 have zl:=(uI S0).R.1
 clear h hx IH hf h4
 generalize tyEs E L x.kids=T at *
 obtain⟨ts,er⟩:=T
 dsimp only at hR TL
 have hs2:((w.alloc (.cells #[.int .i64 x.k,.int .u64 x.n,.int .i64 x.b,.bool x.s,.string x.nm,.slice ka x.kids.length kc] 57)).alloc (.cells #[.int .i64 0,.bool false] 34)).heap.size=w.heap.size+2:=by simp
 have HS2:=zH hs2
 clear hs2
 generalize hW0:(w.alloc (.cells #[.int .i64 x.k,.int .u64 x.n,.int .i64 x.b,.bool x.s,.string x.nm,.slice ka x.kids.length kc] 57)).alloc (.cells #[.int .i64 0,.bool false] 34)=W0 at *
 have HRR:=zH hR
 have HTL:=zH TL
 have HGB:=zH HGB0
 clear hR TL HGB0
 go_enter Tryz.func92,Tryz.ntmps92
 go_wp2_with fail
 refine (uI CT).mono ?_
 rintro e w3 ⟨v',rfl,hlv,k3,hvn⟩
 have HVN:=zH (show ∀ c,v'.ownBlock=some c→w.heap.size+2≤c from fun c hc=>by rw[← uI HS2];exact hvn c hc)
 clear hvn HS2
 obtain⟨va,vc,rfl⟩:∃ va vc,v'=.slice va ts.length vc:=by obtain⟨-,va,vc,e,-⟩:=hlv;exact⟨va,vc,e⟩
 have S1:=zH (show Tk9 B w w3 sb vb fb lb wd E L res lp x ka kc va vc ts from⟨(uI S0).next k3,(uI SC0).step k3,hlv⟩)
 clear k3 S0 SC0 hlv CT a0 a1 a2 a3 a4 a5 hsA z0 z1 zf zl
 obtain⟨a0,a1,a2,a3,a4,a5⟩:=(uI S1).s.A.six8
 have hsA:=(uI S1).s.A.1
 obtain⟨z0,z1⟩:=(uI S1).s.R.at2
 have zf:=(uI S1).s.R.2.2
 have zl:=(uI S1).s.R.1
 have hg:er=0:=uI HGB
 subst hg
 have TL:=uI HTL rfl
 have hR:=uI HRR
 rw[if_neg (by decide)] at hR
 clear HGB HRR HTL
 obtain⟨hk,hkl⟩:=uI HK9
 obtain rfl:R=((x.b,x.s),0):=by
  rw[hR]
  unfold tyF
  rw[if_neg (by omega),hk]
  rw[hkl] at TL
  obtain⟨t,rfl⟩:=List.length_eq_one_iff.1 TL
  rfl
 have e1:(x.k==1)=false:=zBq (by omega)
 have e5:(x.k==5)=true:=beq_iff_eq.2 hk
 have e2:(x.k==2)=false:=zBq (by omega)
 have e3:(x.k==3)=false:=zBq (by omega)
 have e6:(x.k==6)=false:=zBq (by omega)
 have e7:(x.k==7)=false:=zBq (by omega)
 have e8:(x.k==8)=false:=zBq (by omega)
 have e25:(x.k==25)=false:=zBq (by omega)
 have e26:(x.k==26)=false:=zBq (by omega)
 clear hk hkl hR TL
 go_wp2_with fail
 obtain⟨p0,p1⟩:=((uI S1).s.R.two9 (.int .i64 x.b) (.bool x.s)).at2
 exact bodyPost_ret (v:=.tuple #[.agg #[.int .i64 x.b,.bool x.s],.int .i64 0]) (by simp[results,Tryz.results92,go_sem,p0,p1]) rfl ⟨rfl,zY (uI S1).s.d (by omega) _ _⟩
theorem ty_2 (x:Ex)(IH:∀ y∈x.kids,TyC y)(h4:x.k≠4)(hlen:x.kids.length≤100)(HK9:Hid (x.k=2∧True))(B:Nat)(w:World)(sb vb fb lb:Nat)(wd:Int)(E:Nev)(L:Loc)(res:Int × Bool)(lp:Nat)(kv:Value)(h:Sc B w sb vb fb lb wd E L res lp)(hx:ExL B w kv x.kids)(hf:ExF x)(HGB0:(tyEs E L x.kids).2=0) :
  Calls Tryz.prog 92 #[.pointer (some ⟨sb,0,none⟩),.agg #[.int .i64 x.k,.int .u64 x.n,.int .i64 x.b,.bool x.s,.string x.nm,kv]] w fun e w'=>e=.returned (.tuple #[.agg #[.int .i64 (tyE E L x).1.1,.bool (tyE E L x).1.2],.int .i64 (tyE E L x).2])∧Below w.heap.size w w':=by
 obtain⟨ka,kc,rfl⟩:∃ ao cap,kv=.slice ao x.kids.length cap:=by obtain⟨ao,cap,e,-⟩:=hx.at;exact⟨ao,cap,e⟩
 obtain⟨R,hR⟩:∃ R,R=tyE E L x:=⟨_,rfl⟩
 rw[← hR]
 rw[tyE_kids E L x h4] at hR
 have S0:=zH (Tv.begin #[.int .i64 0,.bool false] 57 34 hx h.hB)
 have SC0:=zH (h.step (uI S0).d)
 have hnm:=hf.2
 have CT:=zH (qar x.kids IH hlen B _ sb vb fb lb wd E L res lp _ (uI SC0) (uI S0).hk)
 have TL:=qbk E L x.kids
 have e4:(x.k==4)=false:=zBq h4
 obtain⟨a0,a1,a2,a3,a4,a5⟩:=(uI S0).A.six8
 have hsA:=(uI S0).A.1
 obtain⟨z0,z1⟩:=(uI S0).R.at2
 have zf:=(uI S0).R.2.2
 have zl:=(uI S0).R.1
 clear h hx IH hf h4
 generalize tyEs E L x.kids=T at *
 obtain⟨ts,er⟩:=T
 dsimp only at hR TL
 have hs2:((w.alloc (.cells #[.int .i64 x.k,.int .u64 x.n,.int .i64 x.b,.bool x.s,.string x.nm,.slice ka x.kids.length kc] 57)).alloc (.cells #[.int .i64 0,.bool false] 34)).heap.size=w.heap.size+2:=by simp
 have HS2:=zH hs2
 clear hs2
 generalize hW0:(w.alloc (.cells #[.int .i64 x.k,.int .u64 x.n,.int .i64 x.b,.bool x.s,.string x.nm,.slice ka x.kids.length kc] 57)).alloc (.cells #[.int .i64 0,.bool false] 34)=W0 at *
 have HRR:=zH hR
 have HTL:=zH TL
 have HGB:=zH HGB0
 clear hR TL HGB0
 go_enter Tryz.func92,Tryz.ntmps92
 go_wp2_with fail
 refine (uI CT).mono ?_
 rintro e w3 ⟨v',rfl,hlv,k3,hvn⟩
 have HVN:=zH (show ∀ c,v'.ownBlock=some c→w.heap.size+2≤c from fun c hc=>by rw[← uI HS2];exact hvn c hc)
 clear hvn HS2
 obtain⟨va,vc,rfl⟩:∃ va vc,v'=.slice va ts.length vc:=by obtain⟨-,va,vc,e,-⟩:=hlv;exact⟨va,vc,e⟩
 have S1:=zH (show Tk9 B w w3 sb vb fb lb wd E L res lp x ka kc va vc ts from⟨(uI S0).next k3,(uI SC0).step k3,hlv⟩)
 clear k3 S0 SC0 hlv CT a0 a1 a2 a3 a4 a5 hsA z0 z1 zf zl
 obtain⟨a0,a1,a2,a3,a4,a5⟩:=(uI S1).s.A.six8
 have hsA:=(uI S1).s.A.1
 obtain⟨z0,z1⟩:=(uI S1).s.R.at2
 have zf:=(uI S1).s.R.2.2
 have zl:=(uI S1).s.R.1
 have hg:er=0:=uI HGB
 subst hg
 have TL:=uI HTL rfl
 have hR:=uI HRR
 rw[if_neg (by decide)] at hR
 clear HGB HRR HTL
 obtain⟨hk,hkl⟩:=uI HK9
 have hR:R=askC E L x.nm false:=by rw[hR];unfold tyF;rw[if_pos (by omega),hk];rfl
 have e1:(x.k==1)=false:=zBq (by omega)
 have e5:(x.k==5)=false:=zBq (by omega)
 have e2:(x.k==2)=true:=beq_iff_eq.2 hk
 have e3:(x.k==3)=false:=zBq (by omega)
 have e6:(x.k==6)=false:=zBq (by omega)
 have e7:(x.k==7)=false:=zBq (by omega)
 have e8:(x.k==8)=false:=zBq (by omega)
 have e25:(x.k==25)=false:=zBq (by omega)
 have e26:(x.k==26)=false:=zBq (by omega)
 have CA:=zH (asked_any B _ sb vb fb lb wd E L res lp (uI S1).sc x.nm hnm false)
 rw[← hR] at CA
 clear hk hkl hR TL
 obtain⟨⟨rb,rss⟩,re⟩:=R
 dsimp only at CA
 go_wp2_with fail
 refine (uI CA).mono ?_
 rintro e w4 ⟨rfl,k4⟩
 have S2:=zH ((uI S1).next k4)
 clear k4 S1 CA a0 a1 a2 a3 a4 a5 hsA z0 z1 zf zl
 have S1:=S2
 obtain⟨a0,a1,a2,a3,a4,a5⟩:=(uI S1).s.A.six8
 have hsA:=(uI S1).s.A.1
 obtain⟨z0,z1⟩:=(uI S1).s.R.at2
 have zf:=(uI S1).s.R.2.2
 have zl:=(uI S1).s.R.1
 go_wp2_with fail
 obtain⟨p0,p1⟩:=((uI S1).s.R.two9 (.int .i64 rb) (.bool rss)).at2
 exact bodyPost_ret (v:=.tuple #[.agg #[.int .i64 rb,.bool rss],.int .i64 re]) (by simp[results,Tryz.results92,go_sem,p0,p1]) rfl ⟨rfl,zY (uI S1).s.d (by omega) _ _⟩
theorem ty_3 (x:Ex)(IH:∀ y∈x.kids,TyC y)(h4:x.k≠4)(hlen:x.kids.length≤100)(HK9:Hid (x.k=3∧True))(B:Nat)(w:World)(sb vb fb lb:Nat)(wd:Int)(E:Nev)(L:Loc)(res:Int × Bool)(lp:Nat)(kv:Value)(h:Sc B w sb vb fb lb wd E L res lp)(hx:ExL B w kv x.kids)(hf:ExF x)(HGB0:(tyEs E L x.kids).2=0) :
  Calls Tryz.prog 92 #[.pointer (some ⟨sb,0,none⟩),.agg #[.int .i64 x.k,.int .u64 x.n,.int .i64 x.b,.bool x.s,.string x.nm,kv]] w fun e w'=>e=.returned (.tuple #[.agg #[.int .i64 (tyE E L x).1.1,.bool (tyE E L x).1.2],.int .i64 (tyE E L x).2])∧Below w.heap.size w w':=by
 obtain⟨ka,kc,rfl⟩:∃ ao cap,kv=.slice ao x.kids.length cap:=by obtain⟨ao,cap,e,-⟩:=hx.at;exact⟨ao,cap,e⟩
 obtain⟨R,hR⟩:∃ R,R=tyE E L x:=⟨_,rfl⟩
 rw[← hR]
 rw[tyE_kids E L x h4] at hR
 have S0:=zH (Tv.begin #[.int .i64 0,.bool false] 57 34 hx h.hB)
 have SC0:=zH (h.step (uI S0).d)
 have hnm:=hf.2
 have CT:=zH (qar x.kids IH hlen B _ sb vb fb lb wd E L res lp _ (uI SC0) (uI S0).hk)
 have TL:=qbk E L x.kids
 have e4:(x.k==4)=false:=zBq h4
 obtain⟨a0,a1,a2,a3,a4,a5⟩:=(uI S0).A.six8
 have hsA:=(uI S0).A.1
 obtain⟨z0,z1⟩:=(uI S0).R.at2
 have zf:=(uI S0).R.2.2
 have zl:=(uI S0).R.1
 clear h hx IH hf h4
 generalize tyEs E L x.kids=T at *
 obtain⟨ts,er⟩:=T
 dsimp only at hR TL
 have hs2:((w.alloc (.cells #[.int .i64 x.k,.int .u64 x.n,.int .i64 x.b,.bool x.s,.string x.nm,.slice ka x.kids.length kc] 57)).alloc (.cells #[.int .i64 0,.bool false] 34)).heap.size=w.heap.size+2:=by simp
 have HS2:=zH hs2
 clear hs2
 generalize hW0:(w.alloc (.cells #[.int .i64 x.k,.int .u64 x.n,.int .i64 x.b,.bool x.s,.string x.nm,.slice ka x.kids.length kc] 57)).alloc (.cells #[.int .i64 0,.bool false] 34)=W0 at *
 have HRR:=zH hR
 have HTL:=zH TL
 have HGB:=zH HGB0
 clear hR TL HGB0
 go_enter Tryz.func92,Tryz.ntmps92
 go_wp2_with fail
 refine (uI CT).mono ?_
 rintro e w3 ⟨v',rfl,hlv,k3,hvn⟩
 have HVN:=zH (show ∀ c,v'.ownBlock=some c→w.heap.size+2≤c from fun c hc=>by rw[← uI HS2];exact hvn c hc)
 clear hvn HS2
 obtain⟨va,vc,rfl⟩:∃ va vc,v'=.slice va ts.length vc:=by obtain⟨-,va,vc,e,-⟩:=hlv;exact⟨va,vc,e⟩
 have S1:=zH (show Tk9 B w w3 sb vb fb lb wd E L res lp x ka kc va vc ts from⟨(uI S0).next k3,(uI SC0).step k3,hlv⟩)
 clear k3 S0 SC0 hlv CT a0 a1 a2 a3 a4 a5 hsA z0 z1 zf zl
 obtain⟨a0,a1,a2,a3,a4,a5⟩:=(uI S1).s.A.six8
 have hsA:=(uI S1).s.A.1
 obtain⟨z0,z1⟩:=(uI S1).s.R.at2
 have zf:=(uI S1).s.R.2.2
 have zl:=(uI S1).s.R.1
 have hg:er=0:=uI HGB
 subst hg
 have TL:=uI HTL rfl
 have hR:=uI HRR
 rw[if_neg (by decide)] at hR
 clear HGB HRR HTL
 obtain⟨hk,hkl⟩:=uI HK9
 have hR:R=askC E L x.nm true:=by rw[hR];unfold tyF;rw[if_pos (by omega),hk];rfl
 have e1:(x.k==1)=false:=zBq (by omega)
 have e5:(x.k==5)=false:=zBq (by omega)
 have e2:(x.k==2)=false:=zBq (by omega)
 have e3:(x.k==3)=true:=beq_iff_eq.2 hk
 have e6:(x.k==6)=false:=zBq (by omega)
 have e7:(x.k==7)=false:=zBq (by omega)
 have e8:(x.k==8)=false:=zBq (by omega)
 have e25:(x.k==25)=false:=zBq (by omega)
 have e26:(x.k==26)=false:=zBq (by omega)
 have CA:=zH (asked_any B _ sb vb fb lb wd E L res lp (uI S1).sc x.nm hnm true)
 rw[← hR] at CA
 clear hk hkl hR TL
 obtain⟨⟨rb,rss⟩,re⟩:=R
 dsimp only at CA
 go_wp2_with fail
 refine (uI CA).mono ?_
 rintro e w4 ⟨rfl,k4⟩
 have S2:=zH ((uI S1).next k4)
 clear k4 S1 CA a0 a1 a2 a3 a4 a5 hsA z0 z1 zf zl
 have S1:=S2
 obtain⟨a0,a1,a2,a3,a4,a5⟩:=(uI S1).s.A.six8
 have hsA:=(uI S1).s.A.1
 obtain⟨z0,z1⟩:=(uI S1).s.R.at2
 have zf:=(uI S1).s.R.2.2
 have zl:=(uI S1).s.R.1
 go_wp2_with fail
 obtain⟨p0,p1⟩:=((uI S1).s.R.two9 (.int .i64 rb) (.bool rss)).at2
 exact bodyPost_ret (v:=.tuple #[.agg #[.int .i64 rb,.bool rss],.int .i64 re]) (by simp[results,Tryz.results92,go_sem,p0,p1]) rfl ⟨rfl,zY (uI S1).s.d (by omega) _ _⟩
theorem ty_6 (x:Ex)(IH:∀ y∈x.kids,TyC y)(h4:x.k≠4)(hlen:x.kids.length≤100)(HK9:Hid (x.k=6∧x.kids.length=1))(B:Nat)(w:World)(sb vb fb lb:Nat)(wd:Int)(E:Nev)(L:Loc)(res:Int × Bool)(lp:Nat)(kv:Value)(h:Sc B w sb vb fb lb wd E L res lp)(hx:ExL B w kv x.kids)(hf:ExF x)(HGB0:(tyEs E L x.kids).2=0) :
  Calls Tryz.prog 92 #[.pointer (some ⟨sb,0,none⟩),.agg #[.int .i64 x.k,.int .u64 x.n,.int .i64 x.b,.bool x.s,.string x.nm,kv]] w fun e w'=>e=.returned (.tuple #[.agg #[.int .i64 (tyE E L x).1.1,.bool (tyE E L x).1.2],.int .i64 (tyE E L x).2])∧Below w.heap.size w w':=by
 obtain⟨ka,kc,rfl⟩:∃ ao cap,kv=.slice ao x.kids.length cap:=by obtain⟨ao,cap,e,-⟩:=hx.at;exact⟨ao,cap,e⟩
 obtain⟨R,hR⟩:∃ R,R=tyE E L x:=⟨_,rfl⟩
 rw[← hR]
 rw[tyE_kids E L x h4] at hR
 have S0:=zH (Tv.begin #[.int .i64 0,.bool false] 57 34 hx h.hB)
 have SC0:=zH (h.step (uI S0).d)
 have hnm:=hf.2
 have CT:=zH (qar x.kids IH hlen B _ sb vb fb lb wd E L res lp _ (uI SC0) (uI S0).hk)
 have TL:=qbk E L x.kids
 have e4:(x.k==4)=false:=zBq h4
 obtain⟨a0,a1,a2,a3,a4,a5⟩:=(uI S0).A.six8
 have hsA:=(uI S0).A.1
 obtain⟨z0,z1⟩:=(uI S0).R.at2
 have zf:=(uI S0).R.2.2
 have zl:=(uI S0).R.1
 clear h hx IH hf h4
 generalize tyEs E L x.kids=T at *
 obtain⟨ts,er⟩:=T
 dsimp only at hR TL
 have hs2:((w.alloc (.cells #[.int .i64 x.k,.int .u64 x.n,.int .i64 x.b,.bool x.s,.string x.nm,.slice ka x.kids.length kc] 57)).alloc (.cells #[.int .i64 0,.bool false] 34)).heap.size=w.heap.size+2:=by simp
 have HS2:=zH hs2
 clear hs2
 generalize hW0:(w.alloc (.cells #[.int .i64 x.k,.int .u64 x.n,.int .i64 x.b,.bool x.s,.string x.nm,.slice ka x.kids.length kc] 57)).alloc (.cells #[.int .i64 0,.bool false] 34)=W0 at *
 have HRR:=zH hR
 have HTL:=zH TL
 have HGB:=zH HGB0
 clear hR TL HGB0
 go_enter Tryz.func92,Tryz.ntmps92
 go_wp2_with fail
 refine (uI CT).mono ?_
 rintro e w3 ⟨v',rfl,hlv,k3,hvn⟩
 have HVN:=zH (show ∀ c,v'.ownBlock=some c→w.heap.size+2≤c from fun c hc=>by rw[← uI HS2];exact hvn c hc)
 clear hvn HS2
 obtain⟨va,vc,rfl⟩:∃ va vc,v'=.slice va ts.length vc:=by obtain⟨-,va,vc,e,-⟩:=hlv;exact⟨va,vc,e⟩
 have S1:=zH (show Tk9 B w w3 sb vb fb lb wd E L res lp x ka kc va vc ts from⟨(uI S0).next k3,(uI SC0).step k3,hlv⟩)
 clear k3 S0 SC0 hlv CT a0 a1 a2 a3 a4 a5 hsA z0 z1 zf zl
 obtain⟨a0,a1,a2,a3,a4,a5⟩:=(uI S1).s.A.six8
 have hsA:=(uI S1).s.A.1
 obtain⟨z0,z1⟩:=(uI S1).s.R.at2
 have zf:=(uI S1).s.R.2.2
 have zl:=(uI S1).s.R.1
 have hg:er=0:=uI HGB
 subst hg
 have TL:=uI HTL rfl
 have hR:=uI HRR
 rw[if_neg (by decide)] at hR
 clear HGB HRR HTL
 obtain⟨hk,hkl⟩:=uI HK9
 rw[hkl] at TL
 obtain⟨⟨tb,tss⟩,rfl⟩:=List.length_eq_one_iff.1 TL
 obtain rfl:R=((pb tb,ps tb tss),0):=by
  rw[hR]
  unfold tyF
  rw[if_neg (by omega),hk]
  rfl
 have e1:(x.k==1)=false:=zBq (by omega)
 have e5:(x.k==5)=false:=zBq (by omega)
 have e2:(x.k==2)=false:=zBq (by omega)
 have e3:(x.k==3)=false:=zBq (by omega)
 have e6:(x.k==6)=true:=beq_iff_eq.2 hk
 have e7:(x.k==7)=false:=zBq (by omega)
 have e8:(x.k==8)=false:=zBq (by omega)
 have e25:(x.k==25)=false:=zBq (by omega)
 have e26:(x.k==26)=false:=zBq (by omega)
 obtain⟨vb1,off,rfl,hvb,hvc⟩:=(uI S1).spot (by simp)
 have c0:=hvc 0 (by simp)
 have c1:=hvc 1 (by simp)
 simp only[Nat.add_zero,c2T,List.flatMap_cons,List.flatMap_nil,List.append_nil,List.getElem?_cons_zero,List.getElem?_cons_succ] at c0 c1
 clear hk hkl hR TL hvc
 simp only[List.length_cons,List.length_nil,Nat.zero_add] at *
 have CP:=zH (fun w=>qa6 tb tss w)
 go_wp2_with fail
 refine (uI CP _).mono ?_
 rintro e w4 ⟨rfl,k4⟩
 have S2:=zH ((uI S1).s.next k4)
 clear k4 S1 CP a0 a1 a2 a3 a4 a5 hsA z0 z1 zf zl c0 c1
 obtain⟨z0,z1⟩:=(uI S2).R.at2
 have zf:=(uI S2).R.2.2
 have zl:=(uI S2).R.1
 go_wp2_with fail
 obtain⟨p0,p1⟩:=((uI S2).R.two9 (.int .i64 (pb tb)) (.bool (ps tb tss))).at2
 exact bodyPost_ret (v:=.tuple #[.agg #[.int .i64 (pb tb),.bool (ps tb tss)],.int .i64 0]) (by simp[results,Tryz.results92,go_sem,p0,p1]) rfl ⟨rfl,zY (uI S2).d (by omega) _ _⟩
theorem ty_7 (x:Ex)(IH:∀ y∈x.kids,TyC y)(h4:x.k≠4)(hlen:x.kids.length≤100)(HK9:Hid (x.k=7∧x.kids.length=1))(B:Nat)(w:World)(sb vb fb lb:Nat)(wd:Int)(E:Nev)(L:Loc)(res:Int × Bool)(lp:Nat)(kv:Value)(h:Sc B w sb vb fb lb wd E L res lp)(hx:ExL B w kv x.kids)(hf:ExF x)(HGB0:(tyEs E L x.kids).2=0) :
  Calls Tryz.prog 92 #[.pointer (some ⟨sb,0,none⟩),.agg #[.int .i64 x.k,.int .u64 x.n,.int .i64 x.b,.bool x.s,.string x.nm,kv]] w fun e w'=>e=.returned (.tuple #[.agg #[.int .i64 (tyE E L x).1.1,.bool (tyE E L x).1.2],.int .i64 (tyE E L x).2])∧Below w.heap.size w w':=by
 obtain⟨ka,kc,rfl⟩:∃ ao cap,kv=.slice ao x.kids.length cap:=by obtain⟨ao,cap,e,-⟩:=hx.at;exact⟨ao,cap,e⟩
 obtain⟨R,hR⟩:∃ R,R=tyE E L x:=⟨_,rfl⟩
 rw[← hR]
 rw[tyE_kids E L x h4] at hR
 have S0:=zH (Tv.begin #[.int .i64 0,.bool false] 57 34 hx h.hB)
 have SC0:=zH (h.step (uI S0).d)
 have hnm:=hf.2
 have CT:=zH (qar x.kids IH hlen B _ sb vb fb lb wd E L res lp _ (uI SC0) (uI S0).hk)
 have TL:=qbk E L x.kids
 have e4:(x.k==4)=false:=zBq h4
 obtain⟨a0,a1,a2,a3,a4,a5⟩:=(uI S0).A.six8
 have hsA:=(uI S0).A.1
 obtain⟨z0,z1⟩:=(uI S0).R.at2
 have zf:=(uI S0).R.2.2
 have zl:=(uI S0).R.1
 clear h hx IH hf h4
 generalize tyEs E L x.kids=T at *
 obtain⟨ts,er⟩:=T
 dsimp only at hR TL
 have hs2:((w.alloc (.cells #[.int .i64 x.k,.int .u64 x.n,.int .i64 x.b,.bool x.s,.string x.nm,.slice ka x.kids.length kc] 57)).alloc (.cells #[.int .i64 0,.bool false] 34)).heap.size=w.heap.size+2:=by simp
 have HS2:=zH hs2
 clear hs2
 generalize hW0:(w.alloc (.cells #[.int .i64 x.k,.int .u64 x.n,.int .i64 x.b,.bool x.s,.string x.nm,.slice ka x.kids.length kc] 57)).alloc (.cells #[.int .i64 0,.bool false] 34)=W0 at *
 have HRR:=zH hR
 have HTL:=zH TL
 have HGB:=zH HGB0
 clear hR TL HGB0
 go_enter Tryz.func92,Tryz.ntmps92
 go_wp2_with fail
 refine (uI CT).mono ?_
 rintro e w3 ⟨v',rfl,hlv,k3,hvn⟩
 have HVN:=zH (show ∀ c,v'.ownBlock=some c→w.heap.size+2≤c from fun c hc=>by rw[← uI HS2];exact hvn c hc)
 clear hvn HS2
 obtain⟨va,vc,rfl⟩:∃ va vc,v'=.slice va ts.length vc:=by obtain⟨-,va,vc,e,-⟩:=hlv;exact⟨va,vc,e⟩
 have S1:=zH (show Tk9 B w w3 sb vb fb lb wd E L res lp x ka kc va vc ts from⟨(uI S0).next k3,(uI SC0).step k3,hlv⟩)
 clear k3 S0 SC0 hlv CT a0 a1 a2 a3 a4 a5 hsA z0 z1 zf zl
 obtain⟨a0,a1,a2,a3,a4,a5⟩:=(uI S1).s.A.six8
 have hsA:=(uI S1).s.A.1
 obtain⟨z0,z1⟩:=(uI S1).s.R.at2
 have zf:=(uI S1).s.R.2.2
 have zl:=(uI S1).s.R.1
 have hg:er=0:=uI HGB
 subst hg
 have TL:=uI HTL rfl
 have hR:=uI HRR
 rw[if_neg (by decide)] at hR
 clear HGB HRR HTL
 obtain⟨hk,hkl⟩:=uI HK9
 rw[hkl] at TL
 obtain⟨⟨tb,tss⟩,rfl⟩:=List.length_eq_one_iff.1 TL
 obtain rfl:R=((pb tb,ps tb tss),0):=by
  rw[hR]
  unfold tyF
  rw[if_neg (by omega),hk]
  rfl
 have e1:(x.k==1)=false:=zBq (by omega)
 have e5:(x.k==5)=false:=zBq (by omega)
 have e2:(x.k==2)=false:=zBq (by omega)
 have e3:(x.k==3)=false:=zBq (by omega)
 have e6:(x.k==6)=false:=zBq (by omega)
 have e7:(x.k==7)=true:=beq_iff_eq.2 hk
 have e8:(x.k==8)=false:=zBq (by omega)
 have e25:(x.k==25)=false:=zBq (by omega)
 have e26:(x.k==26)=false:=zBq (by omega)
 obtain⟨vb1,off,rfl,hvb,hvc⟩:=(uI S1).spot (by simp)
 have c0:=hvc 0 (by simp)
 have c1:=hvc 1 (by simp)
 simp only[Nat.add_zero,c2T,List.flatMap_cons,List.flatMap_nil,List.append_nil,List.getElem?_cons_zero,List.getElem?_cons_succ] at c0 c1
 clear hk hkl hR TL hvc
 simp only[List.length_cons,List.length_nil,Nat.zero_add] at *
 have CP:=zH (fun w=>qa6 tb tss w)
 go_wp2_with fail
 refine (uI CP _).mono ?_
 rintro e w4 ⟨rfl,k4⟩
 have S2:=zH ((uI S1).s.next k4)
 clear k4 S1 CP a0 a1 a2 a3 a4 a5 hsA z0 z1 zf zl c0 c1
 obtain⟨z0,z1⟩:=(uI S2).R.at2
 have zf:=(uI S2).R.2.2
 have zl:=(uI S2).R.1
 go_wp2_with fail
 obtain⟨p0,p1⟩:=((uI S2).R.two9 (.int .i64 (pb tb)) (.bool (ps tb tss))).at2
 exact bodyPost_ret (v:=.tuple #[.agg #[.int .i64 (pb tb),.bool (ps tb tss)],.int .i64 0]) (by simp[results,Tryz.results92,go_sem,p0,p1]) rfl ⟨rfl,zY (uI S2).d (by omega) _ _⟩
theorem ty_8 (x:Ex)(IH:∀ y∈x.kids,TyC y)(h4:x.k≠4)(hlen:x.kids.length≤100)(HK9:Hid (x.k=8∧x.kids.length=1))(B:Nat)(w:World)(sb vb fb lb:Nat)(wd:Int)(E:Nev)(L:Loc)(res:Int × Bool)(lp:Nat)(kv:Value)(h:Sc B w sb vb fb lb wd E L res lp)(hx:ExL B w kv x.kids)(hf:ExF x)(HGB0:(tyEs E L x.kids).2=0) :
  Calls Tryz.prog 92 #[.pointer (some ⟨sb,0,none⟩),.agg #[.int .i64 x.k,.int .u64 x.n,.int .i64 x.b,.bool x.s,.string x.nm,kv]] w fun e w'=>e=.returned (.tuple #[.agg #[.int .i64 (tyE E L x).1.1,.bool (tyE E L x).1.2],.int .i64 (tyE E L x).2])∧Below w.heap.size w w':=by
 obtain⟨ka,kc,rfl⟩:∃ ao cap,kv=.slice ao x.kids.length cap:=by obtain⟨ao,cap,e,-⟩:=hx.at;exact⟨ao,cap,e⟩
 obtain⟨R,hR⟩:∃ R,R=tyE E L x:=⟨_,rfl⟩
 rw[← hR]
 rw[tyE_kids E L x h4] at hR
 have S0:=zH (Tv.begin #[.int .i64 0,.bool false] 57 34 hx h.hB)
 have SC0:=zH (h.step (uI S0).d)
 have hnm:=hf.2
 have CT:=zH (qar x.kids IH hlen B _ sb vb fb lb wd E L res lp _ (uI SC0) (uI S0).hk)
 have TL:=qbk E L x.kids
 have e4:(x.k==4)=false:=zBq h4
 obtain⟨a0,a1,a2,a3,a4,a5⟩:=(uI S0).A.six8
 have hsA:=(uI S0).A.1
 obtain⟨z0,z1⟩:=(uI S0).R.at2
 have zf:=(uI S0).R.2.2
 have zl:=(uI S0).R.1
 clear h hx IH hf h4
 generalize tyEs E L x.kids=T at *
 obtain⟨ts,er⟩:=T
 dsimp only at hR TL
 have hs2:((w.alloc (.cells #[.int .i64 x.k,.int .u64 x.n,.int .i64 x.b,.bool x.s,.string x.nm,.slice ka x.kids.length kc] 57)).alloc (.cells #[.int .i64 0,.bool false] 34)).heap.size=w.heap.size+2:=by simp
 have HS2:=zH hs2
 clear hs2
 generalize hW0:(w.alloc (.cells #[.int .i64 x.k,.int .u64 x.n,.int .i64 x.b,.bool x.s,.string x.nm,.slice ka x.kids.length kc] 57)).alloc (.cells #[.int .i64 0,.bool false] 34)=W0 at *
 have HRR:=zH hR
 have HTL:=zH TL
 have HGB:=zH HGB0
 clear hR TL HGB0
 go_enter Tryz.func92,Tryz.ntmps92
 go_wp2_with fail
 refine (uI CT).mono ?_
 rintro e w3 ⟨v',rfl,hlv,k3,hvn⟩
 have HVN:=zH (show ∀ c,v'.ownBlock=some c→w.heap.size+2≤c from fun c hc=>by rw[← uI HS2];exact hvn c hc)
 clear hvn HS2
 obtain⟨va,vc,rfl⟩:∃ va vc,v'=.slice va ts.length vc:=by obtain⟨-,va,vc,e,-⟩:=hlv;exact⟨va,vc,e⟩
 have S1:=zH (show Tk9 B w w3 sb vb fb lb wd E L res lp x ka kc va vc ts from⟨(uI S0).next k3,(uI SC0).step k3,hlv⟩)
 clear k3 S0 SC0 hlv CT a0 a1 a2 a3 a4 a5 hsA z0 z1 zf zl
 obtain⟨a0,a1,a2,a3,a4,a5⟩:=(uI S1).s.A.six8
 have hsA:=(uI S1).s.A.1
 obtain⟨z0,z1⟩:=(uI S1).s.R.at2
 have zf:=(uI S1).s.R.2.2
 have zl:=(uI S1).s.R.1
 have hg:er=0:=uI HGB
 subst hg
 have TL:=uI HTL rfl
 have hR:=uI HRR
 rw[if_neg (by decide)] at hR
 clear HGB HRR HTL
 obtain⟨hk,hkl⟩:=uI HK9
 obtain rfl:R=((16,true),0):=by
  rw[hR]
  unfold tyF
  rw[if_neg (by omega),hk]
  rw[hkl] at TL
  obtain⟨t,rfl⟩:=List.length_eq_one_iff.1 TL
  rfl
 have e1:(x.k==1)=false:=zBq (by omega)
 have e5:(x.k==5)=false:=zBq (by omega)
 have e2:(x.k==2)=false:=zBq (by omega)
 have e3:(x.k==3)=false:=zBq (by omega)
 have e6:(x.k==6)=false:=zBq (by omega)
 have e7:(x.k==7)=false:=zBq (by omega)
 have e8:(x.k==8)=true:=beq_iff_eq.2 hk
 have e25:(x.k==25)=false:=zBq (by omega)
 have e26:(x.k==26)=false:=zBq (by omega)
 clear hk hkl hR TL
 go_wp2_with fail
 refine (ci16_any _).mono ?_
 rintro e w4 ⟨rfl,k4⟩
 have S2:=zH ((uI S1).next k4)
 clear k4 S1 a0 a1 a2 a3 a4 a5 hsA z0 z1 zf zl
 have S1:=S2
 obtain⟨a0,a1,a2,a3,a4,a5⟩:=(uI S1).s.A.six8
 have hsA:=(uI S1).s.A.1
 obtain⟨z0,z1⟩:=(uI S1).s.R.at2
 have zf:=(uI S1).s.R.2.2
 have zl:=(uI S1).s.R.1
 go_wp2_with fail
 obtain⟨p0,p1⟩:=((uI S1).s.R.two9 (.int .i64 16) (.bool true)).at2
 exact bodyPost_ret (v:=.tuple #[.agg #[.int .i64 16,.bool true],.int .i64 0]) (by simp[results,Tryz.results92,go_sem,p0,p1]) rfl ⟨rfl,zY (uI S1).s.d (by omega) _ _⟩
theorem ty_25 (x:Ex)(IH:∀ y∈x.kids,TyC y)(h4:x.k≠4)(hlen:x.kids.length≤100)(HK9:Hid (x.k=25∧x.kids.length=2))(B:Nat)(w:World)(sb vb fb lb:Nat)(wd:Int)(E:Nev)(L:Loc)(res:Int × Bool)(lp:Nat)(kv:Value)(h:Sc B w sb vb fb lb wd E L res lp)(hx:ExL B w kv x.kids)(hf:ExF x)(HGB0:(tyEs E L x.kids).2=0) :
  Calls Tryz.prog 92 #[.pointer (some ⟨sb,0,none⟩),.agg #[.int .i64 x.k,.int .u64 x.n,.int .i64 x.b,.bool x.s,.string x.nm,kv]] w fun e w'=>e=.returned (.tuple #[.agg #[.int .i64 (tyE E L x).1.1,.bool (tyE E L x).1.2],.int .i64 (tyE E L x).2])∧Below w.heap.size w w':=by
 obtain⟨ka,kc,rfl⟩:∃ ao cap,kv=.slice ao x.kids.length cap:=by obtain⟨ao,cap,e,-⟩:=hx.at;exact⟨ao,cap,e⟩
 obtain⟨R,hR⟩:∃ R,R=tyE E L x:=⟨_,rfl⟩
 rw[← hR]
 rw[tyE_kids E L x h4] at hR
 have S0:=zH (Tv.begin #[.int .i64 0,.bool false] 57 34 hx h.hB)
 have SC0:=zH (h.step (uI S0).d)
 have hnm:=hf.2
 have CT:=zH (qar x.kids IH hlen B _ sb vb fb lb wd E L res lp _ (uI SC0) (uI S0).hk)
 have TL:=qbk E L x.kids
 have e4:(x.k==4)=false:=zBq h4
 obtain⟨a0,a1,a2,a3,a4,a5⟩:=(uI S0).A.six8
 have hsA:=(uI S0).A.1
 obtain⟨z0,z1⟩:=(uI S0).R.at2
 have zf:=(uI S0).R.2.2
 have zl:=(uI S0).R.1
 clear h hx IH hf h4
 generalize tyEs E L x.kids=T at *
 obtain⟨ts,er⟩:=T
 dsimp only at hR TL
 have hs2:((w.alloc (.cells #[.int .i64 x.k,.int .u64 x.n,.int .i64 x.b,.bool x.s,.string x.nm,.slice ka x.kids.length kc] 57)).alloc (.cells #[.int .i64 0,.bool false] 34)).heap.size=w.heap.size+2:=by simp
 have HS2:=zH hs2
 clear hs2
 generalize hW0:(w.alloc (.cells #[.int .i64 x.k,.int .u64 x.n,.int .i64 x.b,.bool x.s,.string x.nm,.slice ka x.kids.length kc] 57)).alloc (.cells #[.int .i64 0,.bool false] 34)=W0 at *
 have HRR:=zH hR
 have HTL:=zH TL
 have HGB:=zH HGB0
 clear hR TL HGB0
 go_enter Tryz.func92,Tryz.ntmps92
 go_wp2_with fail
 refine (uI CT).mono ?_
 rintro e w3 ⟨v',rfl,hlv,k3,hvn⟩
 have HVN:=zH (show ∀ c,v'.ownBlock=some c→w.heap.size+2≤c from fun c hc=>by rw[← uI HS2];exact hvn c hc)
 clear hvn HS2
 obtain⟨va,vc,rfl⟩:∃ va vc,v'=.slice va ts.length vc:=by obtain⟨-,va,vc,e,-⟩:=hlv;exact⟨va,vc,e⟩
 have S1:=zH (show Tk9 B w w3 sb vb fb lb wd E L res lp x ka kc va vc ts from⟨(uI S0).next k3,(uI SC0).step k3,hlv⟩)
 clear k3 S0 SC0 hlv CT a0 a1 a2 a3 a4 a5 hsA z0 z1 zf zl
 obtain⟨a0,a1,a2,a3,a4,a5⟩:=(uI S1).s.A.six8
 have hsA:=(uI S1).s.A.1
 obtain⟨z0,z1⟩:=(uI S1).s.R.at2
 have zf:=(uI S1).s.R.2.2
 have zl:=(uI S1).s.R.1
 have hg:er=0:=uI HGB
 subst hg
 have TL:=uI HTL rfl
 have hR:=uI HRR
 rw[if_neg (by decide)] at hR
 clear HGB HRR HTL
 obtain⟨hk,hkl⟩:=uI HK9
 obtain rfl:R=((16,true),0):=by
  rw[hR]
  unfold tyF
  rw[if_neg (by omega),hk]
  rw[hkl] at TL
  obtain⟨t,u,rfl⟩:=len_two TL
  rfl
 have e1:(x.k==1)=false:=zBq (by omega)
 have e5:(x.k==5)=false:=zBq (by omega)
 have e2:(x.k==2)=false:=zBq (by omega)
 have e3:(x.k==3)=false:=zBq (by omega)
 have e6:(x.k==6)=false:=zBq (by omega)
 have e7:(x.k==7)=false:=zBq (by omega)
 have e8:(x.k==8)=false:=zBq (by omega)
 have e25:(x.k==25)=true:=beq_iff_eq.2 hk
 have e26:(x.k==26)=false:=zBq (by omega)
 clear hk hkl hR TL
 go_wp2_with fail
 refine (ci16_any _).mono ?_
 rintro e w4 ⟨rfl,k4⟩
 have S2:=zH ((uI S1).next k4)
 clear k4 S1 a0 a1 a2 a3 a4 a5 hsA z0 z1 zf zl
 have S1:=S2
 obtain⟨a0,a1,a2,a3,a4,a5⟩:=(uI S1).s.A.six8
 have hsA:=(uI S1).s.A.1
 obtain⟨z0,z1⟩:=(uI S1).s.R.at2
 have zf:=(uI S1).s.R.2.2
 have zl:=(uI S1).s.R.1
 go_wp2_with fail
 obtain⟨p0,p1⟩:=((uI S1).s.R.two9 (.int .i64 16) (.bool true)).at2
 exact bodyPost_ret (v:=.tuple #[.agg #[.int .i64 16,.bool true],.int .i64 0]) (by simp[results,Tryz.results92,go_sem,p0,p1]) rfl ⟨rfl,zY (uI S1).s.d (by omega) _ _⟩
theorem ty_26 (x:Ex)(IH:∀ y∈x.kids,TyC y)(h4:x.k≠4)(hlen:x.kids.length≤100)(HK9:Hid (x.k=26∧x.kids.length=2))(B:Nat)(w:World)(sb vb fb lb:Nat)(wd:Int)(E:Nev)(L:Loc)(res:Int × Bool)(lp:Nat)(kv:Value)(h:Sc B w sb vb fb lb wd E L res lp)(hx:ExL B w kv x.kids)(hf:ExF x)(HGB0:(tyEs E L x.kids).2=0) :
  Calls Tryz.prog 92 #[.pointer (some ⟨sb,0,none⟩),.agg #[.int .i64 x.k,.int .u64 x.n,.int .i64 x.b,.bool x.s,.string x.nm,kv]] w fun e w'=>e=.returned (.tuple #[.agg #[.int .i64 (tyE E L x).1.1,.bool (tyE E L x).1.2],.int .i64 (tyE E L x).2])∧Below w.heap.size w w':=by
 obtain⟨ka,kc,rfl⟩:∃ ao cap,kv=.slice ao x.kids.length cap:=by obtain⟨ao,cap,e,-⟩:=hx.at;exact⟨ao,cap,e⟩
 obtain⟨R,hR⟩:∃ R,R=tyE E L x:=⟨_,rfl⟩
 rw[← hR]
 rw[tyE_kids E L x h4] at hR
 have S0:=zH (Tv.begin #[.int .i64 0,.bool false] 57 34 hx h.hB)
 have SC0:=zH (h.step (uI S0).d)
 have hnm:=hf.2
 have CT:=zH (qar x.kids IH hlen B _ sb vb fb lb wd E L res lp _ (uI SC0) (uI S0).hk)
 have TL:=qbk E L x.kids
 have e4:(x.k==4)=false:=zBq h4
 obtain⟨a0,a1,a2,a3,a4,a5⟩:=(uI S0).A.six8
 have hsA:=(uI S0).A.1
 obtain⟨z0,z1⟩:=(uI S0).R.at2
 have zf:=(uI S0).R.2.2
 have zl:=(uI S0).R.1
 clear h hx IH hf h4
 generalize tyEs E L x.kids=T at *
 obtain⟨ts,er⟩:=T
 dsimp only at hR TL
 have hs2:((w.alloc (.cells #[.int .i64 x.k,.int .u64 x.n,.int .i64 x.b,.bool x.s,.string x.nm,.slice ka x.kids.length kc] 57)).alloc (.cells #[.int .i64 0,.bool false] 34)).heap.size=w.heap.size+2:=by simp
 have HS2:=zH hs2
 clear hs2
 generalize hW0:(w.alloc (.cells #[.int .i64 x.k,.int .u64 x.n,.int .i64 x.b,.bool x.s,.string x.nm,.slice ka x.kids.length kc] 57)).alloc (.cells #[.int .i64 0,.bool false] 34)=W0 at *
 have HRR:=zH hR
 have HTL:=zH TL
 have HGB:=zH HGB0
 clear hR TL HGB0
 go_enter Tryz.func92,Tryz.ntmps92
 go_wp2_with fail
 refine (uI CT).mono ?_
 rintro e w3 ⟨v',rfl,hlv,k3,hvn⟩
 have HVN:=zH (show ∀ c,v'.ownBlock=some c→w.heap.size+2≤c from fun c hc=>by rw[← uI HS2];exact hvn c hc)
 clear hvn HS2
 obtain⟨va,vc,rfl⟩:∃ va vc,v'=.slice va ts.length vc:=by obtain⟨-,va,vc,e,-⟩:=hlv;exact⟨va,vc,e⟩
 have S1:=zH (show Tk9 B w w3 sb vb fb lb wd E L res lp x ka kc va vc ts from⟨(uI S0).next k3,(uI SC0).step k3,hlv⟩)
 clear k3 S0 SC0 hlv CT a0 a1 a2 a3 a4 a5 hsA z0 z1 zf zl
 obtain⟨a0,a1,a2,a3,a4,a5⟩:=(uI S1).s.A.six8
 have hsA:=(uI S1).s.A.1
 obtain⟨z0,z1⟩:=(uI S1).s.R.at2
 have zf:=(uI S1).s.R.2.2
 have zl:=(uI S1).s.R.1
 have hg:er=0:=uI HGB
 subst hg
 have TL:=uI HTL rfl
 have hR:=uI HRR
 rw[if_neg (by decide)] at hR
 clear HGB HRR HTL
 obtain⟨hk,hkl⟩:=uI HK9
 obtain rfl:R=((16,true),0):=by
  rw[hR]
  unfold tyF
  rw[if_neg (by omega),hk]
  rw[hkl] at TL
  obtain⟨t,u,rfl⟩:=len_two TL
  rfl
 have e1:(x.k==1)=false:=zBq (by omega)
 have e5:(x.k==5)=false:=zBq (by omega)
 have e2:(x.k==2)=false:=zBq (by omega)
 have e3:(x.k==3)=false:=zBq (by omega)
 have e6:(x.k==6)=false:=zBq (by omega)
 have e7:(x.k==7)=false:=zBq (by omega)
 have e8:(x.k==8)=false:=zBq (by omega)
 have e25:(x.k==25)=false:=zBq (by omega)
 have e26:(x.k==26)=true:=beq_iff_eq.2 hk
 clear hk hkl hR TL
 go_wp2_with fail
 refine (ci16_any _).mono ?_
 rintro e w4 ⟨rfl,k4⟩
 have S2:=zH ((uI S1).next k4)
 clear k4 S1 a0 a1 a2 a3 a4 a5 hsA z0 z1 zf zl
 have S1:=S2
 obtain⟨a0,a1,a2,a3,a4,a5⟩:=(uI S1).s.A.six8
 have hsA:=(uI S1).s.A.1
 obtain⟨z0,z1⟩:=(uI S1).s.R.at2
 have zf:=(uI S1).s.R.2.2
 have zl:=(uI S1).s.R.1
 go_wp2_with fail
 obtain⟨p0,p1⟩:=((uI S1).s.R.two9 (.int .i64 16) (.bool true)).at2
 exact bodyPost_ret (v:=.tuple #[.agg #[.int .i64 16,.bool true],.int .i64 0]) (by simp[results,Tryz.results92,go_sem,p0,p1]) rfl ⟨rfl,zY (uI S1).s.d (by omega) _ _⟩
theorem ty_two (x:Ex)(IH:∀ y∈x.kids,TyC y)(h4:x.k≠4)(hlen:x.kids.length≤100)(HK9:Hid ((9≤x.k∧x.k≤24)∧x.kids.length=2))(B:Nat)(w:World)(sb vb fb lb:Nat)(wd:Int)(E:Nev)(L:Loc)(res:Int × Bool)(lp:Nat)(kv:Value)(h:Sc B w sb vb fb lb wd E L res lp)(hx:ExL B w kv x.kids)(hf:ExF x)(HGB0:(tyEs E L x.kids).2=0) :
  Calls Tryz.prog 92 #[.pointer (some ⟨sb,0,none⟩),.agg #[.int .i64 x.k,.int .u64 x.n,.int .i64 x.b,.bool x.s,.string x.nm,kv]] w fun e w'=>e=.returned (.tuple #[.agg #[.int .i64 (tyE E L x).1.1,.bool (tyE E L x).1.2],.int .i64 (tyE E L x).2])∧Below w.heap.size w w':=by
 obtain⟨ka,kc,rfl⟩:∃ ao cap,kv=.slice ao x.kids.length cap:=by obtain⟨ao,cap,e,-⟩:=hx.at;exact⟨ao,cap,e⟩
 obtain⟨R,hR⟩:∃ R,R=tyE E L x:=⟨_,rfl⟩
 rw[← hR]
 rw[tyE_kids E L x h4] at hR
 have S0:=zH (Tv.begin #[.int .i64 0,.bool false] 57 34 hx h.hB)
 have SC0:=zH (h.step (uI S0).d)
 have hnm:=hf.2
 have CT:=zH (qar x.kids IH hlen B _ sb vb fb lb wd E L res lp _ (uI SC0) (uI S0).hk)
 have TL:=qbk E L x.kids
 have e4:(x.k==4)=false:=zBq h4
 obtain⟨a0,a1,a2,a3,a4,a5⟩:=(uI S0).A.six8
 have hsA:=(uI S0).A.1
 obtain⟨z0,z1⟩:=(uI S0).R.at2
 have zf:=(uI S0).R.2.2
 have zl:=(uI S0).R.1
 clear h hx IH hf h4
 generalize tyEs E L x.kids=T at *
 obtain⟨ts,er⟩:=T
 dsimp only at hR TL
 have hs2:((w.alloc (.cells #[.int .i64 x.k,.int .u64 x.n,.int .i64 x.b,.bool x.s,.string x.nm,.slice ka x.kids.length kc] 57)).alloc (.cells #[.int .i64 0,.bool false] 34)).heap.size=w.heap.size+2:=by simp
 have HS2:=zH hs2
 clear hs2
 generalize hW0:(w.alloc (.cells #[.int .i64 x.k,.int .u64 x.n,.int .i64 x.b,.bool x.s,.string x.nm,.slice ka x.kids.length kc] 57)).alloc (.cells #[.int .i64 0,.bool false] 34)=W0 at *
 have HRR:=zH hR
 have HTL:=zH TL
 have HGB:=zH HGB0
 clear hR TL HGB0
 go_enter Tryz.func92,Tryz.ntmps92
 go_wp2_with fail
 refine (uI CT).mono ?_
 rintro e w3 ⟨v',rfl,hlv,k3,hvn⟩
 have HVN:=zH (show ∀ c,v'.ownBlock=some c→w.heap.size+2≤c from fun c hc=>by rw[← uI HS2];exact hvn c hc)
 clear hvn HS2
 obtain⟨va,vc,rfl⟩:∃ va vc,v'=.slice va ts.length vc:=by obtain⟨-,va,vc,e,-⟩:=hlv;exact⟨va,vc,e⟩
 have S1:=zH (show Tk9 B w w3 sb vb fb lb wd E L res lp x ka kc va vc ts from⟨(uI S0).next k3,(uI SC0).step k3,hlv⟩)
 clear k3 S0 SC0 hlv CT a0 a1 a2 a3 a4 a5 hsA z0 z1 zf zl
 obtain⟨a0,a1,a2,a3,a4,a5⟩:=(uI S1).s.A.six8
 have hsA:=(uI S1).s.A.1
 obtain⟨z0,z1⟩:=(uI S1).s.R.at2
 have zf:=(uI S1).s.R.2.2
 have zl:=(uI S1).s.R.1
 have hg:er=0:=uI HGB
 subst hg
 have TL:=uI HTL rfl
 have hR:=uI HRR
 rw[if_neg (by decide)] at hR
 clear HGB HRR HTL
 obtain⟨⟨lo,hi⟩,hkl⟩:=uI HK9
 rw[hkl] at TL
 obtain⟨⟨tb,tss⟩,⟨ub,us⟩,rfl⟩:=len_two TL
 obtain rfl:R=((rb x.k tb ub,rs x.k tb tss ub us),0):=by
  rw[hR]
  unfold tyF
  rw[if_neg (by omega)]
  show ((if x.k=25∨x.k=26 then (16,true) else (rb x.k tb ub,rs x.k tb tss ub us)),(0:Int))=_
  rw[if_neg (by omega)]
 have e1:(x.k==1)=false:=zBq (by omega)
 have e5:(x.k==5)=false:=zBq (by omega)
 have e2:(x.k==2)=false:=zBq (by omega)
 have e3:(x.k==3)=false:=zBq (by omega)
 have e6:(x.k==6)=false:=zBq (by omega)
 have e7:(x.k==7)=false:=zBq (by omega)
 have e8:(x.k==8)=false:=zBq (by omega)
 have e25:(x.k==25)=false:=zBq (by omega)
 have e26:(x.k==26)=false:=zBq (by omega)
 obtain⟨vb1,off,rfl,hvb,hvc⟩:=(uI S1).spot (by simp)
 have CLA:=zH (fun (W:World) (t:Tk9 B w W sb vb fb lb wd E L res lp x ka kc (some ⟨vb1,off,none⟩) vc [(tb,tss),(ub,us)])=>(by
  obtain⟨_,ao,cap,e,_,_,_,h5⟩:=t.l
  injection e with e1 _ e3
  obtain⟨b,o2,e2,h6,h7⟩:=h5 (by simp)
  rw[← e1] at e2
  injection e2 with e2
  injection e2 with e2 e3
  subst e2 e3
  have c0:=h7 0 (by simp)
  have c1:=h7 1 (by simp)
  have c2:=h7 2 (by simp)
  have c3:=h7 3 (by simp)
  simp only[Nat.add_zero,c2T,List.flatMap_cons,List.flatMap_nil,List.append_nil,List.cons_append,List.nil_append,List.getElem?_cons_zero,List.getElem?_cons_succ] at c0 c1 c2 c3
  exact⟨t.s.A.2.1 0 _ rfl,c0,c1,c2,c3⟩:W.cell? ⟨w.heap.size,0,none⟩=some (.int .i64 x.k)∧W.cell? ⟨vb1,off,none⟩=some (.int .i64 tb)∧W.cell? ⟨vb1,off+1,none⟩=some (.bool tss)∧W.cell? ⟨vb1,off+2,none⟩=some (.int .i64 ub)∧W.cell? ⟨vb1,off+3,none⟩=some (.bool us)))
 clear hkl hR TL hvc lo hi
 simp only[List.length_cons,List.length_nil,Nat.zero_add] at *
 have CP:=zH (fun w=>result_any x.k tb tss ub us w)
 go_wp2_with fail
 refine zU (fun W=>W.cell? ⟨w.heap.size,0,none⟩=some (.int .i64 x.k)∧W.cell? ⟨vb1,off,none⟩=some (.int .i64 tb)∧W.cell? ⟨vb1,off+1,none⟩=some (.bool tss)∧W.cell? ⟨vb1,off+2,none⟩=some (.int .i64 ub)∧W.cell? ⟨vb1,off+3,none⟩=some (.bool us)) (by kernel_rfl) ?_
 have S2:=zH ((uI S1).next (Below.refl _ _).drew)
 clear S1 a0 a1 a2 a3 a4 a5 hsA z0 z1 zf zl
 generalize w3.drew=W8 at *
 refine qR 0 8 3 ?_
 simp only[zTD]
 repeat (refine zS (fun K hK=>?_);go_simp;first|(refine zQ ?_ (fun W hW=>?_) (hK _ ?_);rotate_left;(obtain⟨d0,d1,d2,d3,d4⟩:=hW;go_simp;first|done|rfl);clear hK K)|(refine hK _ ?_;clear hK K))
 refine zO ?_
 refine qO 8 2 (uI CLA _ (uI S2)) ?_
 simp only[zTD]
 go_wp2_with fail
 refine (uI CP _).mono ?_
 rintro e w4 ⟨rfl,k4⟩
 have S3:=zH ((uI S2).next k4)
 clear k4 S2 CP
 obtain⟨z0,z1⟩:=(uI S3).s.R.at2
 have zf:=(uI S3).s.R.2.2
 have zl:=(uI S3).s.R.1
 go_wp2_with fail
 first|refine zN ?_|refine zG ?_
 refine qO 9 1 (uI CLA _ (uI S3)) ?_
 simp only[zTD]
 go_wp2_with fail
 first|refine zN ?_|refine zG ?_
 have SP:=zH ((uI S3).s.R.two9 (.int .i64 (rb x.k tb ub)) (.bool (rs x.k tb tss ub us)))
 have HD:=zH (zY (uI S3).s.d (Nat.le_add_right _ 1) (.int .i64 (rb x.k tb ub)) (.bool (rs x.k tb tss ub us)))
 have hv2:vb1≠w.heap.size+1:=by have:=uI HVN vb1 rfl;omega
 have hv3:w.heap.size≠w.heap.size+1:=by omega
 have keep:∀ (b o:Nat) (u v:Value) (W:World),b≠w.heap.size+1→((W.setCell ⟨w.heap.size+1,0,none⟩ u).setCell ⟨w.heap.size+1,1,none⟩ v).cell? ⟨b,o,none⟩=W.cell? ⟨b,o,none⟩:=fun b o u v W hb=>by
  rw[World.cell?_setCell_other _ _ _ _ (fun h=>hb (congrArg Addr.block h).symm),World.cell?_setCell_other _ _ _ _ (fun h=>hb (congrArg Addr.block h).symm)]
 have HC2:=zH (show ∀ W,(W=((w4.setCell ⟨w.heap.size+1,0,none⟩ (.int .i64 (rb x.k tb ub))).setCell ⟨w.heap.size+1,1,none⟩ (.bool (rs x.k tb tss ub us))))→W.cell? ⟨w.heap.size,0,none⟩=some (.int .i64 x.k)∧W.cell? ⟨vb1,off,none⟩=some (.int .i64 tb)∧W.cell? ⟨vb1,off+1,none⟩=some (.bool tss)∧W.cell? ⟨vb1,off+2,none⟩=some (.int .i64 ub)∧W.cell? ⟨vb1,off+3,none⟩=some (.bool us) from fun W hW=>by
  rw[hW]
  simp only[keep _ _ _ _ _ hv2,keep _ _ _ _ _ hv3]
  exact uI CLA _ (uI S3))
 clear keep hv2 hv3 S3 CLA HVN
 obtain⟨p0,p1⟩:=(uI SP).at2
 refine qO 10 0 (uI HC2 _ rfl) ?_
 simp only[zTD]
 go_wp2_with fail
 first|refine zN ?_|refine zG ?_
 refine zE (by kernel_rfl) (uI HC2 _ rfl) ?_
 go_wp2_with fail
 exact bodyPost_ret (v:=.tuple #[.agg #[.int .i64 (rb x.k tb ub),.bool (rs x.k tb tss ub us)],.int .i64 0]) (by simp[results,Tryz.results92,go_sem,p0,p1]) rfl ⟨rfl,uI HD⟩
theorem typeOf_call (x:Ex)(IH:∀ y∈x.kids,TyC y)(hk4:x.k=4)(hlen:x.kids.length≤100)(B:Nat)(w:World)(sb vb fb lb:Nat)(wd:Int)(E:Nev)(L:Loc)(res:Int × Bool)(lp:Nat)(kv:Value)(h:Sc B w sb vb fb lb wd E L res lp)(hx:ExL B w kv x.kids)(hf:ExF x) :
  Calls Tryz.prog 92 #[.pointer (some ⟨sb,0,none⟩),.agg #[.int .i64 x.k,.int .u64 x.n,.int .i64 x.b,.bool x.s,.string x.nm,kv]] w fun e w'=>e=.returned (.tuple #[.agg #[.int .i64 (tyE E L x).1.1,.bool (tyE E L x).1.2],.int .i64 (tyE E L x).2])∧Below w.heap.size w w':=by
 obtain⟨ka,kc,rfl⟩:∃ ao cap,kv=.slice ao x.kids.length cap:=by obtain⟨ao,cap,e,-⟩:=hx.at;exact⟨ao,cap,e⟩
 have S0:=zH (Tv.begin #[.int .i64 0,.bool false] 57 34 hx h.hB)
 have CT:=zH (called_any x IH hk4 hlen B _ sb vb fb lb wd E L res lp _ (h.step (uI S0).d) (uI S0).hk hf)
 have e4:(x.k==4)=true:=beq_iff_eq.2 hk4
 obtain⟨a0,a1,a2,a3,a4,a5⟩:=(uI S0).A.six8
 have hsA:=(uI S0).A.1
 clear h hx IH hf hk4
 generalize tyE E L x=R at *
 obtain⟨⟨rb,rss⟩,re⟩:=R
 dsimp only at CT
 generalize hW0:(w.alloc (.cells #[.int .i64 x.k,.int .u64 x.n,.int .i64 x.b,.bool x.s,.string x.nm,.slice ka x.kids.length kc] 57)).alloc (.cells #[.int .i64 0,.bool false] 34)=W0 at *
 go_enter Tryz.func92,Tryz.ntmps92
 go_wp2_with fail
 refine (uI CT).mono ?_
 rintro e w3 ⟨rfl,k3⟩
 have S1:=zH ((uI S0).next k3)
 clear k3 S0 CT a0 a1 a2 a3 a4 a5 hsA
 obtain⟨z0,z1⟩:=(uI S1).R.at2
 have zf:=(uI S1).R.2.2
 have zl:=(uI S1).R.1
 go_wp2_with fail
 obtain⟨p0,p1⟩:=((uI S1).R.two9 (.int .i64 rb) (.bool rss)).at2
 exact bodyPost_ret (v:=.tuple #[.agg #[.int .i64 rb,.bool rss],.int .i64 re]) (by simp[results,Tryz.results92,go_sem,p0,p1]) rfl ⟨rfl,zY (uI S1).d (by omega) _ _⟩
theorem tyC_any:∀ x:Ex,TvE x→TyC x:=by
 apply Ex.ind
 intro x IH ht
 obtain⟨_,lo,hi,kl,kh,num,cast,kt⟩:=ht
 have IH':∀ y∈x.kids,TyC y:=fun y hy=>IH y hy (kt y hy)
 have hlen:x.kids.length≤100:=by
  unfold kidHi at kh
  repeat' split at kh
  all_goals omega
 intro B w sb vb fb lb wd E L res lp kv h hx hf
 by_cases h4:x.k=4
 ·refine (typeOf_call x IH' h4 hlen B w sb vb fb lb wd E L res lp kv h hx hf)
 by_cases hg:(tyEs E L x.kids).2=0
 rotate_left
 ·exact ty_bad x IH' h4 hlen B w sb vb fb lb wd E L res lp kv h hx hf hg
 unfold kidLo at kl
 unfold kidHi at kh
 by_cases h1:x.k=1
 ·exact ty_1 x IH' h4 hlen (zH ⟨h1,by rw[if_pos (by omega)] at kl;rw[if_pos (by omega)] at kh;omega⟩) B w sb vb fb lb wd E L res lp kv h hx hf hg
 by_cases h2:x.k=2
 ·exact ty_2 x IH' h4 hlen (zH ⟨h2,trivial⟩) B w sb vb fb lb wd E L res lp kv h hx hf hg
 by_cases h3:x.k=3
 ·exact ty_3 x IH' h4 hlen (zH ⟨h3,trivial⟩) B w sb vb fb lb wd E L res lp kv h hx hf hg
 by_cases h8:x.k≤8
 ·have hl1:x.kids.length=1:=by
   rw[if_neg (by omega),if_pos (by omega)] at kl
   rw[if_neg (by omega),if_neg (by omega),if_pos (by omega)] at kh
   omega
  by_cases h5:x.k=5
  ·exact ty_5 x IH' h4 hlen (zH ⟨h5,hl1⟩) B w sb vb fb lb wd E L res lp kv h hx hf hg
  by_cases h6:x.k=6
  ·exact ty_6 x IH' h4 hlen (zH ⟨h6,hl1⟩) B w sb vb fb lb wd E L res lp kv h hx hf hg
  by_cases h7:x.k=7
  ·exact ty_7 x IH' h4 hlen (zH ⟨h7,hl1⟩) B w sb vb fb lb wd E L res lp kv h hx hf hg
  exact ty_8 x IH' h4 hlen (zH ⟨by omega,hl1⟩) B w sb vb fb lb wd E L res lp kv h hx hf hg
 ·have hl2:x.kids.length=2:=by
   rw[if_neg (by omega),if_neg (by omega)] at kl
   rw[if_neg (by omega),if_neg (by omega),if_neg (by omega)] at kh
   omega
  by_cases h25:x.k=25
  ·exact ty_25 x IH' h4 hlen (zH ⟨h25,hl2⟩) B w sb vb fb lb wd E L res lp kv h hx hf hg
  by_cases h26:x.k=26
  ·exact ty_26 x IH' h4 hlen (zH ⟨h26,hl2⟩) B w sb vb fb lb wd E L res lp kv h hx hf hg
  exact ty_two x IH' h4 hlen (zH ⟨⟨by omega,by omega⟩,hl2⟩) B w sb vb fb lb wd E L res lp kv h hx hf hg
end Go.Proofs.YtjpnnmkefaodoaaGreat
