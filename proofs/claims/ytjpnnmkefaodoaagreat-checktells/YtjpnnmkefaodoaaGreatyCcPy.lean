/-
  CcP, CkD, CkE, CkF.
-/
import Derived.Test.YtjpnnmkefaodoaaGreatyTrKy
import Derived.Test.YtjpnnmkefaodoaaGreatyCcCy
import Derived.Test.YtjpnnmkefaodoaaGreatyMapVy
import Derived.Laws.MakeOwn
set_option maxHeartbeats 8000000
set_option maxRecDepth 100000
namespace Go.Proofs.YtjpnnmkefaodoaaGreat
open Go.RowKit
set_option linter.unusedSimpArgs false
set_option linter.unusedVariables false
theorem Box.two9 {w:World}{b:Nat}{x y:Value}(h:Box w b [x,y])(u v:Value):Box ((w.setCell ⟨b,0,none⟩ u).setCell ⟨b,1,none⟩ v) b [u,v]:=(h.set (j:=0) (u:=u) (by simp)).set (j:=1) (u:=v) (by simp)
theorem Tv.put9 {w W:World}{B:Nat}{x:Ex}{ka:Option Addr}{kc:Nat}{p q:Value}(h:Tv w W B x ka kc [p,q])(hB:B≤w.heap.size)(u v:Value):Tv w ((W.setCell ⟨w.heap.size+1,0,none⟩ u).setCell ⟨w.heap.size+1,1,none⟩ v) B x ka kc [u,v]:=by
 have hb:=zY (Below.refl W.heap.size W |>.mono (B':=w.heap.size+1) (by have:=h.R.1;omega)) (Nat.le_refl (w.heap.size+1)) u v
 exact⟨zY h.d (by omega) _ _,(h.A.other (b':=w.heap.size+1) (by omega)).other (b':=w.heap.size+1) (by omega),h.R.two9 u v,h.hk.step (hb.mono (by omega)),Nat.le_trans h.le hb.size⟩
theorem ExL.mono9 {B B':Nat}{w:World}{v:Value}{xs:List Ex}(h:ExL B w v xs)(hB:B≤B'):ExL B' w v xs:=by
 induction h with
 | mk v xs ks hl hv lies ok kids ih=>exact .mk v xs ks hl (fun c hc hn=>Nat.lt_of_lt_of_le (hv c hc hn) hB) lies ok ih
inductive NmE:Ex→Prop
 | mk (x:Ex) (f:ExF x) (kids:∀ y∈x.kids,NmE y):NmE x
theorem nmE_of:∀ (x:Ex) (B:Nat) (w:World) (kv:Value),ExL B w kv x.kids→ExF x→NmE x:=by
 apply Ex.ind
 intro x IH B w kv h hf
 refine .mk x hf fun y hy=>?_
 obtain⟨ao,cap,-,-,h2⟩:=h.at
 obtain⟨j,hj,rfl⟩:=List.mem_iff_getElem.1 hy
 obtain⟨b,off,-,-,-,hc⟩:=h2 (List.ne_nil_of_mem hy)
 obtain⟨kv',h3,h4,-⟩:=hc j hj
 exact IH _ hy B w kv' h3 h4
theorem one_of {l:List Ex}(h:l.length=1):∃ a,l=[a]:=by
 match l,h with
 | [a],_=>exact⟨a,rfl⟩
theorem two_of {l:List Ex}(h:l.length=2):∃ a b,l=[a,b]:=by
 match l,h with
 | [a,b],_=>exact⟨a,b,rfl⟩
open Go.RowKit Go.Maps
def c2T (t:Int × Bool):List Value:=[.int .i64 t.1,.bool t.2]
def TyC (x:Ex):Prop:=∀ (B:Nat) (w:World) (sb vb fb lb:Nat) (wd:Int) (E:Nev) (L:Loc) (res:Int × Bool) (lp:Nat) (kv:Value),Sc B w sb vb fb lb wd E L res lp→ExL B w kv x.kids→ExF x →
 Calls Tryz.prog 92 #[.pointer (some ⟨sb,0,none⟩),.agg #[.int .i64 x.k,.int .u64 x.n,.int .i64 x.b,.bool x.s,.string x.nm,kv]] w fun e w'=>e=.returned (.tuple #[.agg #[.int .i64 (tyE E L x).1.1,.bool (tyE E L x).1.2],.int .i64 (tyE E L x).2])∧Below w.heap.size w w'
theorem toldType_any (x:Ex)(IH:TyC x)(B:Nat)(w:World)(sb vb fb lb:Nat)(wd:Int)(E:Nev)(L:Loc)(res:Int × Bool)(lp:Nat)(kv:Value)(h:Sc B w sb vb fb lb wd E L res lp)(hx:ExL B w kv x.kids)(hf:ExF x) :
  Calls Tryz.prog 137 #[.pointer (some ⟨sb,0,none⟩),.agg #[.int .i64 x.k,.int .u64 x.n,.int .i64 x.b,.bool x.s,.string x.nm,kv]] w fun e w'=>e=.returned (.tuple #[.agg #[.int .i64 (told (tyE E L x)).1.1,.bool (told (tyE E L x)).1.2],.int .i64 (told (tyE E L x)).2])∧Below w.heap.size w w':=by
 obtain⟨ka,kc,rfl⟩:∃ ao cap,kv=.slice ao x.kids.length cap:=by obtain⟨ao,cap,e,-⟩:=hx.at;exact⟨ao,cap,e⟩
 have S0:=zH (Tv.begin #[.int .i64 0,.bool false] 57 34 hx h.hB)
 have CT:=zH (IH B _ sb vb fb lb wd E L res lp _ (h.step (uI S0).d) (uI S0).hk hf)
 obtain⟨a0,a1,a2,a3,a4,a5⟩:=(uI S0).A.six8
 have hsA:=(uI S0).A.1
 clear h hx hf IH
 generalize tyE E L x=R at *
 obtain⟨⟨tb,ts⟩,er⟩:=R
 dsimp only at CT
 generalize hW0:(w.alloc (.cells #[.int .i64 x.k,.int .u64 x.n,.int .i64 x.b,.bool x.s,.string x.nm,.slice ka x.kids.length kc] 57)).alloc (.cells #[.int .i64 0,.bool false] 34)=W0 at *
 obtain⟨R,hR⟩:∃ R,R=told ((tb,ts),er):=⟨_,rfl⟩
 rw[← hR]
 have HR:=zH hR
 clear hR
 go_enter Tryz.func137,Tryz.ntmps137
 go_wp2_with fail
 refine (uI CT).mono ?_
 rintro e w1 ⟨rfl,k1⟩
 have S1:=zH ((uI S0).next k1)
 have kN:=qaa w1 (.cells #[.int .i64 tb,.bool ts] 34)
 have BN:=zH (Box.new w1 #[.int .i64 tb,.bool ts] 34)
 have S2:=zH ((uI S1).next kN)
 clear k1 S0 S1 CT kN a0 a1 a2 a3 a4 a5 hsA
 obtain⟨z0,z1⟩:=(uI S2).R.at2
 have zf:=(uI S2).R.2.2
 have zl:=(uI S2).R.1
 obtain⟨u0,u1⟩:=(uI BN).at2
 have hsN:=(uI BN).1
 by_cases he:er=0
 ·subst he
  by_cases h1:tb=0
  ·subst h1
   cases ts
   ·obtain rfl:R=((0,false),9):=uI HR
    go_wp2_with fail
    obtain⟨p0,p1⟩:=((uI S2).R.two9 (.int .i64 0) (.bool false)).at2
    exact bodyPost_ret (v:=.tuple #[.agg #[.int .i64 0,.bool false],.int .i64 9]) (by simp[results,Tryz.results137,go_sem,p0,p1]) rfl ⟨rfl,zY (uI S2).d (by omega) _ _⟩
   ·obtain rfl:R=((0,true),0):=uI HR
    generalize hW2:w1.alloc (.cells #[.int .i64 0,.bool true] 34)=W2 at *
    go_wp2_with fail
    obtain⟨p0,p1⟩:=((uI S2).R.two9 (.int .i64 0) (.bool true)).at2
    exact bodyPost_ret (v:=.tuple #[.agg #[.int .i64 0,.bool true],.int .i64 0]) (by simp[results,Tryz.results137,go_sem,p0,p1]) rfl ⟨rfl,zY (uI S2).d (by omega) _ _⟩
  ·obtain rfl:R=((tb,ts),0):=by rw[uI HR];unfold told;rw[if_neg (by intro h;injection h.2 with h _;exact h1 h)]
   generalize hW2:w1.alloc (.cells #[.int .i64 tb,.bool ts] 34)=W2 at *
   have h1':(tb==0)=false:=zBq h1
   clear h1
   go_wp2_with fail
   obtain⟨p0,p1⟩:=((uI S2).R.two9 (.int .i64 tb) (.bool ts)).at2
   exact bodyPost_ret (v:=.tuple #[.agg #[.int .i64 tb,.bool ts],.int .i64 0]) (by simp[results,Tryz.results137,go_sem,p0,p1]) rfl ⟨rfl,zY (uI S2).d (by omega) _ _⟩
 ·obtain rfl:R=((tb,ts),er):=by rw[uI HR];unfold told;rw[if_neg (fun h=>he h.1)]
  have he':(er==0)=false:=zBq he
  clear he
  by_cases hz:tb=0∧ts=false
  ·obtain⟨rfl,rfl⟩:=hz
   go_wp2_with fail
   obtain⟨p0,p1⟩:=((uI S2).R.two9 (.int .i64 0) (.bool false)).at2
   exact bodyPost_ret (v:=.tuple #[.agg #[.int .i64 0,.bool false],.int .i64 er]) (by simp[results,Tryz.results137,go_sem,p0,p1]) rfl ⟨rfl,zY (uI S2).d (by omega) _ _⟩
  clear hz
  generalize hW2:w1.alloc (.cells #[.int .i64 tb,.bool ts] 34)=W2 at *
  go_wp2_with fail
  obtain⟨p0,p1⟩:=((uI S2).R.two9 (.int .i64 tb) (.bool ts)).at2
  exact bodyPost_ret (v:=.tuple #[.agg #[.int .i64 tb,.bool ts],.int .i64 er]) (by simp[results,Tryz.results137,go_sem,p0,p1]) rfl ⟨rfl,zY (uI S2).d (by omega) _ _⟩
def BoxT2 (W:World)(mb n i:Nat)(ts:List (Int × Bool)):Prop:=∃ arr:Array Value,BoxC W mb arr 34∧arr.size=n*2∧ts.length=i∧∀ j,j<i*2→arr[j]?=(ts.flatMap c2T)[j]?
theorem c2T_len (l:List (Int × Bool)):(l.flatMap c2T).length=l.length*2:=by
 induction l with
 | nil=>rfl
 | cons t l ih=>rw[List.flatMap_cons,List.length_append,ih,List.length_cons,Nat.add_mul];show 2+_=_;omega
theorem BoxT2.made (w:World)(n:Nat):BoxT2 (w.alloc (.cells (madeCells #[.int .i64 0,.bool false] (n*2)) 34)) w.heap.size n 0 [] :=
 ⟨_,BoxC.new _ _ _ (by decide),size_madeCells _ _,rfl,fun j hj=>by omega⟩
theorem BoxT2.step {W W':World}{mb n i:Nat}{ts:List (Int × Bool)}(h:BoxT2 W mb n i ts)(k:Below W.heap.size W W'):BoxT2 W' mb n i ts:=by
 obtain⟨arr,h1,h2⟩:=h
 exact⟨arr,h1.step k,h2⟩
theorem BoxT2.spots {W:World}{mb n i:Nat}{ts:List (Int × Bool)}(h:BoxT2 W mb n i ts)(hi:i<n):∃ u v,W.cell? ⟨mb,i*2,none⟩=some u∧W.cell? ⟨mb,i*2+1,none⟩=some v∧∀ j,W.frozen? ⟨mb,j,none⟩=false:=by
 obtain⟨arr,h1,h2,_⟩:=h
 exact⟨_,_,h1.box.2.1 (i*2) _ (by rw[Array.getElem?_toList];exact Array.getElem?_eq_getElem (by omega)),h1.box.2.1 (i*2+1) _ (by rw[Array.getElem?_toList];exact Array.getElem?_eq_getElem (by omega)),h1.box.2.2⟩
theorem BoxT2.put {W:World}{mb n i:Nat}{ts:List (Int × Bool)}(h:BoxT2 W mb n i ts)(hi:i<n)(b:Int)(s:Bool):BoxT2 ((W.setCell ⟨mb,i*2,none⟩ (.int .i64 b)).setCell ⟨mb,i*2+1,none⟩ (.bool s)) mb n (i+1) (ts++[(b,s)]):=by
 obtain⟨arr,h1,h2,h3,h4⟩:=h
 refine⟨_,(h1.set).set,by simp[h2],by simp[h3],fun j hj=>?_⟩
 rw[List.flatMap_append]
 have hl:=c2T_len ts
 by_cases e:j<i*2
 ·rw[Array.getElem?_setIfInBounds_ne (by omega),Array.getElem?_setIfInBounds_ne (by omega),List.getElem?_append_left (by rw[hl,h3];exact e)]
  exact h4 j e
 ·rw[List.getElem?_append_right (by rw[hl,h3];omega),hl,h3]
  by_cases e2:j=i*2
  ·subst e2
   rw[Array.getElem?_setIfInBounds_ne (by omega),Array.getElem?_setIfInBounds_self_of_lt (by omega)]
   simp[c2T]
  ·obtain rfl:j=i*2+1:=by omega
   rw[Array.getElem?_setIfInBounds_self_of_lt (by simp;omega)]
   simp[c2T]
theorem BoxT2.lies {W:World}{mb n:Nat}{ts:List (Int × Bool)}(h:BoxT2 W mb n n ts)(hn:n≤maxLen):Lies W 2 (.slice (some ⟨mb,0,none⟩) n n) ts.length (ts.flatMap c2T):=by
 obtain⟨arr,h1,h2,h3,h4⟩:=h
 refine⟨c2T_len ts,some ⟨mb,0,none⟩,n,by rw[h3],by rw[h3];exact Nat.le_refl _,hn,(fun h=>by cases h),fun _=>⟨mb,0,rfl,h1.lt,fun j hj=>?_⟩⟩
 rw[h3] at hj
 rw[Nat.zero_add,← h4 j hj]
 have:=h1.box.2.1 j (arr[j]'(by omega)) (by rw[Array.getElem?_toList];exact Array.getElem?_eq_getElem (by omega))
 rw[this,Array.getElem?_eq_getElem (by omega)]
theorem Tryz.infoType:(Tryz.prog.info? 34).map (fun i=>(i.zero,i.size,i.bytes))=some (some (.agg #[.int .i64 0,.bool false]),2,16):=by kernel_rfl
theorem qbb {i?:Option TypeInfo}{z:Value}{s b:Nat}(h:i?.map (fun i=>(i.zero,i.size,i.bytes))=some (some z,s,b)):∃ i,i?=some i∧i.zero=some z∧i.size=s∧i.bytes=b:=by
 cases i? with
 | none=>cases h
 | some i =>
  simp only[Option.map_some,Option.some.injEq,Prod.mk.injEq] at h
  exact⟨i,rfl,h.1,h.2.1,h.2.2⟩
theorem make_types (n:Nat)(hn:n≤1000)(w:World):(Instr.makeSlice 65 (.int .i64 (n:Int)) (.int .i64 (n:Int))).run Tryz.prog w=.ok (.slice (some ⟨w.heap.size,0,none⟩) n n) (w.alloc (.cells (madeCells #[.int .i64 0,.bool false] (n*2)) 34)):=by
 obtain⟨i,hi,hz,hs,hb⟩:=qbb Tryz.infoType
 have:=run_make (P:=Tryz.prog) w 65 34 i _ Tryz.underlying65 hi hz .i64 .i64 n n (by omega) (Int.le_refl _) (by rw[hb];omega) (by omega)
 rw[hs] at this
 simpa [Value.cells] using this
def tAcc (ts:List (Int × Bool))(r:List (Int × Bool) × Int):List (Int × Bool) × Int:=if r.2≠0 then ([],r.2) else (ts++r.1,0)
theorem tyEs_bad (E:Nev)(L:Loc)(xs:List Ex)(h:(tyEs E L xs).2≠0):(tyEs E L xs).1=[]:=by
 cases xs with
 | nil=>rw[tyEs] at h;exact absurd rfl h
 | cons x xs =>
  rw[tyEs] at h ⊢
  split
  ·rfl
  ·rename_i h1
   rw[if_neg h1] at h
   split
   ·rfl
   ·rename_i h2
    rw[if_neg h2] at h
    exact absurd rfl h
theorem tAcc_nil (E:Nev)(L:Loc)(xs:List Ex):tAcc [] (tyEs E L xs)=tyEs E L xs:=by
 unfold tAcc
 by_cases h:(tyEs E L xs).2=0
 ·rw[if_neg (by simp[h]),List.nil_append,← h]
 ·rw[if_pos h,← tyEs_bad E L xs h]
theorem tAcc_bad {E:Nev}{L:Loc}{x:Ex}{xs:List Ex}{ts:List (Int × Bool)}(h:(told (tyE E L x)).2≠0):tAcc ts (tyEs E L (x::xs))=([],(told (tyE E L x)).2):=by
 rw[tyEs,if_pos h]
 exact if_pos h
theorem tAcc_good {E:Nev}{L:Loc}{x:Ex}{xs:List Ex}{ts:List (Int × Bool)}(h:(told (tyE E L x)).2=0):tAcc ts (tyEs E L (x::xs))=tAcc (ts++[(told (tyE E L x)).1]) (tyEs E L xs):=by
 rw[tyEs,if_neg (by simp[h])]
 unfold tAcc
 by_cases h2:(tyEs E L xs).2=0
 ·rw[if_neg (by simp[h2])]
  simp[h2]
 ·rw[if_pos h2]
  simp[h2]
def TolR (w:World)(R:List (Int × Bool) × Int)(e:Ending)(w':World):Prop:=∃ v',e=.returned (.tuple #[v',.int .i64 R.2])∧Lies w' 2 v' R.1.length (R.1.flatMap c2T)∧Below w.heap.size w w'∧∀ c,v'.ownBlock=some c→w.heap.size≤c
theorem qar (xs:List Ex)(IH:∀ x∈xs,TyC x)(hlen:xs.length≤100)(B:Nat)(w:World)(sb vb fb lb:Nat)(wd:Int)(E:Nev)(L:Loc)(res:Int × Bool)(lp:Nat)(v:Value)(h:Sc B w sb vb fb lb wd E L res lp)(hx:ExL B w v xs) :
  Calls Tryz.prog 136 #[.pointer (some ⟨sb,0,none⟩),v] w fun e w'=>TolR w (tyEs E L xs) e w':=by
 obtain⟨ao,cap,rfl,hmax,-⟩:=hx.at
 have HX:=zH hx
 have HI:=zH IH
 have HS:=zH h
 have hB:=h.hB
 clear hx IH h
 unfold maxLen at hmax
 have hmk:=fun w=>make_types xs.length (by omega) w
 obtain⟨R,hR⟩:∃ R,R=tyEs E L xs:=⟨_,rfl⟩
 rw[← hR]
 have HR:=zH (show tAcc [] (tyEs E L (xs.drop 0))=R by rw[hR];exact tAcc_nil E L xs)
 clear hR
 have K0:=zH (qaa w (.cells (madeCells #[.int .i64 0,.bool false] (xs.length*2)) 34))
 have M0:=zH (BoxT2.made w xs.length)
 generalize hMC:madeCells #[.int .i64 0,.bool false] (xs.length*2)=MC at *
 go_enter Tryz.func136,Tryz.ntmps136
 go_wp2_with fail
 clear hmk hMC
 generalize w.alloc (.cells MC 34)=W0 at *
 go_loopg [16] xs.length (fun g t wr=>∃ (i:Nat) (ts:List (Int × Bool)),i≤xs.length∧g=xs.length - i∧t=.int .i64 (i:Int)∧Hid (Below w.heap.size w wr)∧Hid (BoxT2 wr w.heap.size xs.length i ts)∧Hid (tAcc ts (tyEs E L (xs.drop i))=R))
 case atStart=>exact⟨0,[],Nat.zero_le _,rfl,rfl,K0,M0,HR⟩
 case round =>
  clear K0 M0 HR
  obtain⟨i,ts,hi,hg,rfl,HC,HM,HE⟩:=hrel
  generalize wr=W1 at *
  by_cases hlt:i<xs.length
  ·have hn:xs≠[]:=by intro h;rw[h] at hlt;simp at hlt
   have hsz:=(uI HC).size
   have hxw:ExL B W1 (.slice ao xs.length cap) xs:=(uI HX).step ((uI HC).mono hB)
   obtain⟨ao',cap',e1,-,hat⟩:=hxw.at
   injection e1 with e1 _ e2
   subst e1 e2
   obtain⟨b1,o1,rfl,hb1,hbw,hc1⟩:=hat hn
   obtain⟨kv,hk,hf,x0,x1,x2,x3,x4,x5⟩:=hc1 i hlt
   obtain⟨ak,ck,rfl,-,-⟩:=hk.at
   have hiI:(i:Int)<(xs.length:Int):=by omega
   have hi0:(0:Int)≤(i:Int):=by omega
   have HD:=zH (show xs.drop i=xs[i]::xs.drop (i+1) from List.drop_eq_getElem_cons hlt)
   have ka:=qaa W1 (.cells #[.int .i64 xs[i].k,.int .u64 xs[i].n,.int .i64 xs[i].b,.bool xs[i].s,.string xs[i].nm,.slice ak xs[i].kids.length ck] 57)
   have CA:=zH (toldType_any xs[i] (uI HI _ (List.getElem_mem hlt)) B _ sb vb fb lb wd E L res lp _ ((uI HS).step ((uI HC).trans (ka.mono hsz))) (hk.step (ka.mono (by omega))) hf)
   have K1:=zH ((uI HC).trans (ka.mono hsz))
   have M1:=zH ((uI HM).step ka)
   rw[uI HD] at HE
   clear hat hc1 hxw hk ka HD hf HC HM
   generalize xs[i]=y at *
   have hbad:=zH (fun h=>@tAcc_bad E L y (xs.drop (i+1)) ts h)
   have hgood:=zH (fun h=>@tAcc_good E L y (xs.drop (i+1)) ts h)
   generalize told (tyE E L y)=T at *
   obtain⟨⟨tb,tsb⟩,er⟩:=T
   dsimp only at CA hbad hgood
   go_wp2_with fail
   refine (uI CA).mono ?_
   rintro e w1 ⟨rfl,k1⟩
   have kN:=qaa w1 (.cells #[.int .i64 tb,.bool tsb] 34)
   have BN:=zH (Box.new w1 #[.int .i64 tb,.bool tsb] 34)
   have K2:=zH (((uI K1).trans (k1.mono (uI K1).size)).trans (kN.mono (Nat.le_trans (uI K1).size k1.size)))
   have M2:=zH (((uI M1).step k1).step kN)
   clear CA k1 kN K1 M1
   obtain⟨u0,u1⟩:=(uI BN).at2
   have hsN:=(uI BN).1
   generalize hW2:w1.alloc (.cells #[.int .i64 tb,.bool tsb] 34)=W2 at *
   by_cases he:er=0
   ·subst he
    obtain⟨d0,d1,m0,m1,mf⟩:=(uI M2).spots hlt
    have hg2:=zH ((uI hgood rfl).symm.trans (uI HE))
    have hmb:w.heap.size<W2.heap.size:=by obtain⟨arr,q,_⟩:=uI M2;exact q.lt
    have M3:=zH ((uI M2).put hlt tb tsb)
    have K3:=zH (Below.setCell (Below.setCell (uI K2) (p:=⟨w.heap.size,i*2,none⟩) (Nat.le_refl _) (.int .i64 tb)) (p:=⟨w.heap.size,i*2+1,none⟩) (Nat.le_refl _) (.bool tsb))
    go_wp2_with fail
    go_roundg (xs.length - (i+1))
    case measure=>omega
    case rel=>exact⟨i+1,_,by omega,rfl,by go_num,K3,M3,hg2⟩
   ·have hR:R=([],er):=by rw[← uI HE];exact uI hbad he
    subst hR
    have he':(er != 0)=true:=bne_iff_ne.2 he
    clear hbad hgood HE he M2
    go_wp2_with fail
    exact bodyPost_ret (v:=.tuple #[.slice none 0 0,.int .i64 er]) (by simp[results,Tryz.results136,go_sem]) rfl ⟨_,rfl,Lies.nil _ _,uI K2,fun c hc=>by cases hc⟩
  ·have hiI:¬ (i:Int)<(xs.length:Int):=by omega
   obtain rfl:i=xs.length:=by omega
   have hR:R=(ts,0):=by
    rw[← uI HE,List.drop_length,tyEs]
    unfold tAcc
    simp
   subst hR
   clear HE
   go_wp2_with fail
   exact bodyPost_ret (v:=.tuple #[.slice (some ⟨w.heap.size,0,none⟩) xs.length xs.length,.int .i64 0]) (by simp[results,Tryz.results136,go_sem]) rfl ⟨_,rfl,(uI HM).lies (by unfold maxLen;omega),uI HC,fun c hc=>by injection hc with hc;subst hc;exact Nat.le_refl _⟩
theorem zFunc (w:World):(zeroValue 41).run Tryz.prog w=.ok (.agg #[.string ⟨#[]⟩,.int .i64 0,.bool false,.slice none 0 0,.slice none 0 0]) w:=by kernel_rfl
theorem qbk (E:Nev)(L:Loc):∀ xs:List Ex,(tyEs E L xs).2=0→(tyEs E L xs).1.length=xs.length:=by
 intro xs
 induction xs with
 | nil=>intro _;rw[tyEs];rfl
 | cons x xs ih =>
  intro h
  rw[tyEs] at h ⊢
  split at h
  ·rename_i h1;exact absurd h h1
  ·rename_i h1
   rw[if_neg h1]
   split at h
   ·rename_i h2;exact absurd h h2
   ·rename_i h2
    rw[if_neg h2,List.length_cons,List.length_cons,ih (by simpa using h2)]
theorem called_any (x:Ex)(IH:∀ y∈x.kids,TyC y)(hk4:x.k=4)(hlen:x.kids.length≤100)(B:Nat)(w:World)(sb vb fb lb:Nat)(wd:Int)(E:Nev)(L:Loc)(res:Int × Bool)(lp:Nat)(kv:Value)(h:Sc B w sb vb fb lb wd E L res lp)(hx:ExL B w kv x.kids)(hf:ExF x) :
  Calls Tryz.prog 135 #[.pointer (some ⟨sb,0,none⟩),.agg #[.int .i64 x.k,.int .u64 x.n,.int .i64 x.b,.bool x.s,.string x.nm,kv]] w fun e w'=>e=.returned (.tuple #[.agg #[.int .i64 (tyE E L x).1.1,.bool (tyE E L x).1.2],.int .i64 (tyE E L x).2])∧Below w.heap.size w w':=by
 obtain⟨ka,kc,rfl⟩:∃ ao cap,kv=.slice ao x.kids.length cap:=by obtain⟨ao,cap,e,-⟩:=hx.at;exact⟨ao,cap,e⟩
 obtain⟨R,hR⟩:∃ R,R=tyE E L x:=⟨_,rfl⟩
 rw[← hR]
 have hR:R=match E.f x.nm with
   | none=>((0,false),7)
   | some (fb,fs,m)=>if x.kids.length=m then (if (tyEs E L x.kids).2=0 then ((fb,fs),0) else ((0,false),(tyEs E L x.kids).2)) else ((0,false),5):=by
  rw[hR]
  obtain⟨k,n,b,s,nm,kids⟩:=x
  have hk4:k=4:=hk4
  rw[tyE,if_pos hk4]
  rfl
 have S0:=zH (Tv.begin #[.int .i64 0,.bool false] 57 34 hx h.hB)
 have SC0:=zH (h.step (uI S0).d)
 have HI:=zH IH
 have hnm:=hf.2
 obtain⟨a0,a1,a2,a3,a4,a5⟩:=(uI S0).A.six8
 have hsA:=(uI S0).A.1
 clear h hx IH hf hk4
 generalize hW0:(w.alloc (.cells #[.int .i64 x.k,.int .u64 x.n,.int .i64 x.b,.bool x.s,.string x.nm,.slice ka x.kids.length kc] 57)).alloc (.cells #[.int .i64 0,.bool false] 34)=W0 at *
 have S1:=zH ((uI S0).next (Below.refl _ _).drew)
 have SC1:=zH ((uI SC0).step (Below.refl _ _).drew)
 obtain⟨⟨v,n,h1,-,-,-⟩,⟨-,m,g,h5,h6⟩,-⟩:=uI SC1
 have c1:=zC h1 1 _ rfl
 have hsb:=h1.lt
 have R1:=h5.run_ok Tryz.underlying45 (zFunc _) x.nm hnm
 have F1:=h6 x.nm
 have M1:=zH h5
 clear h1 h5 h6 SC0 S0
 unfold FnV at F1
 cases he:E.f x.nm with
 | none =>
  rw[he] at hR F1
  dsimp only at hR F1
  subst hR
  rw[F1] at R1
  simp only[Option.getD_none,Option.isSome_none] at R1
  have HE:=zH he
  have CL:=zH (fun (W:World) (r:List Value) (s:Tv w W B x ka kc r) (q:Mv W fb m g) (c:W.cell? ⟨sb,1,none⟩=some (.map (some fb)))=>(⟨c,s.A.2.1 4 _ rfl,by have:=q.run_ok Tryz.underlying45 (zFunc _) x.nm hnm;rw[F1] at this;exact this⟩:W.cell? ⟨sb,1,none⟩=some (.map (some fb))∧W.cell? ⟨w.heap.size,4,none⟩=some (.string x.nm)∧(Instr.lookup 45 (.map (some fb)) (.string x.nm) true).run Tryz.prog W=.ok (.tuple #[.agg #[.string ⟨#[]⟩,.int .i64 0,.bool false,.slice none 0 0,.slice none 0 0],.bool false]) W))
  clear he F1 R1
  go_enter Tryz.func135,Tryz.ntmps135
  go_wp2_with fail
  refine zU (fun W=>W.cell? ⟨sb,1,none⟩=some (.map (some fb))∧W.cell? ⟨w.heap.size,4,none⟩=some (.string x.nm)∧(Instr.lookup 45 (.map (some fb)) (.string x.nm) true).run Tryz.prog W=.ok (.tuple #[.agg #[.string ⟨#[]⟩,.int .i64 0,.bool false,.slice none 0 0,.slice none 0 0],.bool false]) W) (by kernel_rfl) ?_
  generalize W0.drew=W8 at *
  refine qR 0 11 3 ?_
  simp only[zTD]
  repeat (refine zS (fun K hK=>?_);go_simp;first|(refine zQ ?_ (fun W hW=>?_) (hK _ ?_);rotate_left;(obtain⟨d0,d1,d2⟩:=hW;go_simp;first|done|rfl);clear hK K)|(refine hK _ ?_;clear hK K))
  refine zO ?_
  refine qO 11 2 (uI CL _ _ (uI S1) (uI M1) c1) ?_
  simp only[zTD]
  go_wp2_with fail
  first|refine zN ?_|refine zG ?_
  have kz:=qaa W8 (.cells #[.string ⟨#[]⟩,.int .i64 0,.bool false,.slice none 0 0,.slice none 0 0] 41)
  refine qO 12 1 (uI CL _ _ ((uI S1).next kz) ((uI M1).step kz) (zK kz hsb c1)) ?_
  simp only[zTD]
  clear kz
  go_wp2_with fail
  first|refine zN ?_|refine zG ?_
  have kF:=qaa W8 (.cells #[.string ⟨#[]⟩,.int .i64 0,.bool false,.slice none 0 0,.slice none 0 0] 41)
  have BF:=zH (Box.new W8 #[.string ⟨#[]⟩,.int .i64 0,.bool false,.slice none 0 0,.slice none 0 0] 41)
  have S2:=zH ((uI S1).next kF)
  have M2:=zH ((uI M1).step kF)
  have SC2:=zH ((uI SC1).step kF)
  have c2:=zK kF hsb c1
  refine qO 13 0 (uI CL _ _ (uI S2) (uI M2) c2) ?_
  simp only[zTD]
  go_wp2_with fail
  first|refine zN ?_|refine zG ?_
  refine zE (by kernel_rfl) (uI CL _ _ (uI S2) (uI M2) c2) ?_
  have HZ:=zH (show w.heap.size+1<W8.heap.size from (uI S1).R.1)
  have S8:=S1
  clear S1 SC1 M1 kF CL c1 c2 hsb
  have S1:=S2
  clear S2 a0 a1 a2 a3 a4 a5 hsA
  obtain⟨a0,a1,a2,a3,a4,a5⟩:=(uI S1).A.six8
  have hsA:=(uI S1).A.1
  obtain⟨z0,z1⟩:=(uI S1).R.at2
  have zf:=(uI S1).R.2.2
  have zl:=(uI S1).R.1
  go_wp2_with fail
  obtain⟨p0,p1⟩:=((uI S1).R.two9 (.int .i64 0) (.bool false)).at2
  exact bodyPost_ret (v:=.tuple #[.agg #[.int .i64 0,.bool false],.int .i64 7]) (by simp[results,Tryz.results135,go_sem,p0,p1]) rfl ⟨rfl,zY (uI S1).d (by omega) _ _⟩
 | some q =>
  obtain⟨qb,qs,qm⟩:=q
  rw[he] at hR F1
  dsimp only at hR F1
  obtain⟨fn,fa,fc,fba,fbn,fbc,F1⟩:=F1
  rw[F1] at R1
  simp only[Option.getD_some,Option.isSome_some] at R1
  have HE:=zH he
  have CL:=zH (fun (W:World) (r:List Value) (s:Tv w W B x ka kc r) (q:Mv W fb m g) (c:W.cell? ⟨sb,1,none⟩=some (.map (some fb)))=>(⟨c,s.A.2.1 4 _ rfl,by have:=q.run_ok Tryz.underlying45 (zFunc _) x.nm hnm;rw[F1] at this;exact this⟩:W.cell? ⟨sb,1,none⟩=some (.map (some fb))∧W.cell? ⟨w.heap.size,4,none⟩=some (.string x.nm)∧(Instr.lookup 45 (.map (some fb)) (.string x.nm) true).run Tryz.prog W=.ok (.tuple #[.agg #[.string fn,.int .i64 qb,.bool qs,.slice fa qm fc,.slice fba fbn fbc],.bool true]) W))
  clear he F1 R1
  go_enter Tryz.func135,Tryz.ntmps135
  go_wp2_with fail
  refine zU (fun W=>W.cell? ⟨sb,1,none⟩=some (.map (some fb))∧W.cell? ⟨w.heap.size,4,none⟩=some (.string x.nm)∧(Instr.lookup 45 (.map (some fb)) (.string x.nm) true).run Tryz.prog W=.ok (.tuple #[.agg #[.string fn,.int .i64 qb,.bool qs,.slice fa qm fc,.slice fba fbn fbc],.bool true]) W) (by kernel_rfl) ?_
  generalize W0.drew=W8 at *
  refine qR 0 11 3 ?_
  simp only[zTD]
  repeat (refine zS (fun K hK=>?_);go_simp;first|(refine zQ ?_ (fun W hW=>?_) (hK _ ?_);rotate_left;(obtain⟨d0,d1,d2⟩:=hW;go_simp;first|done|rfl);clear hK K)|(refine hK _ ?_;clear hK K))
  refine zO ?_
  refine qO 11 2 (uI CL _ _ (uI S1) (uI M1) c1) ?_
  simp only[zTD]
  go_wp2_with fail
  first|refine zN ?_|refine zG ?_
  have kz:=qaa W8 (.cells #[.string ⟨#[]⟩,.int .i64 0,.bool false,.slice none 0 0,.slice none 0 0] 41)
  refine qO 12 1 (uI CL _ _ ((uI S1).next kz) ((uI M1).step kz) (zK kz hsb c1)) ?_
  simp only[zTD]
  clear kz
  go_wp2_with fail
  first|refine zN ?_|refine zG ?_
  have kF:=qaa W8 (.cells #[.string fn,.int .i64 qb,.bool qs,.slice fa qm fc,.slice fba fbn fbc] 41)
  have BF:=zH (Box.new W8 #[.string fn,.int .i64 qb,.bool qs,.slice fa qm fc,.slice fba fbn fbc] 41)
  have S2:=zH ((uI S1).next kF)
  have M2:=zH ((uI M1).step kF)
  have SC2:=zH ((uI SC1).step kF)
  have c2:=zK kF hsb c1
  refine qO 13 0 (uI CL _ _ (uI S2) (uI M2) c2) ?_
  simp only[zTD]
  go_wp2_with fail
  first|refine zN ?_|refine zG ?_
  refine zE (by kernel_rfl) (uI CL _ _ (uI S2) (uI M2) c2) ?_
  have HZ:=zH (show w.heap.size+1<W8.heap.size from (uI S1).R.1)
  have S8:=S1
  clear S1 SC1 M1 kF CL c1 c2 hsb
  have S1:=S2
  clear S2 a0 a1 a2 a3 a4 a5 hsA
  obtain⟨a0,a1,a2,a3,a4,a5⟩:=(uI S1).A.six8
  have hsA:=(uI S1).A.1
  obtain⟨z0,z1⟩:=(uI S1).R.at2
  have zf:=(uI S1).R.2.2
  have zl:=(uI S1).R.1
  obtain⟨u0,u1,u2,u3⟩:_∧_∧_∧_:=⟨(uI BF).2.1 0 _ rfl,(uI BF).2.1 1 _ rfl,(uI BF).2.1 2 _ rfl,(uI BF).2.1 3 _ rfl⟩
  have hsF:=(uI BF).1
  clear S8 M2
  generalize hW9:W8.alloc (.cells #[.string fn,.int .i64 qb,.bool qs,.slice fa qm fc,.slice fba fbn fbc] 41)=W9 at *
  by_cases hl:x.kids.length=qm
  ·rw[if_pos hl] at hR
   have hl1:((x.kids.length:Int) != (qm:Int))=false:=by rw[hl];simp
   have hl2:((x.kids.length:Int)==(qm:Int))=true:=by rw[hl];simp
   have CT:=zH (qar x.kids (uI HI) hlen B _ sb vb fb lb wd E L res lp _ (uI SC2) (uI S1).hk)
   generalize tyEs E L x.kids=T at *
   obtain⟨ts,er⟩:=T
   have HRR:=zH hR
   clear hR hl
   go_wp2_with fail
   refine (uI CT).mono ?_
   rintro e w3 ⟨v',rfl,hlv,k3,-⟩
   obtain⟨-,va,vc,rfl,-⟩:=hlv
   have S3:=zH ((uI S1).next k3)
   have BF3:=zH ((uI BF).step k3)
   have HZ3:=zH (show w.heap.size+1≠W8.heap.size from by have:=uI HZ;omega)
   clear k3 S1 BF CT a0 a1 a2 a3 a4 a5 hsA z0 z1 zf zl u0 u1 u2 u3 hsF SC2
   have S1:=S3
   obtain⟨a0,a1,a2,a3,a4,a5⟩:=(uI S1).A.six8
   have hsA:=(uI S1).A.1
   obtain⟨z0,z1⟩:=(uI S1).R.at2
   have zf:=(uI S1).R.2.2
   have zl:=(uI S1).R.1
   obtain⟨u0,u1,u2,u3⟩:_∧_∧_∧_:=⟨(uI BF3).2.1 0 _ rfl,(uI BF3).2.1 1 _ rfl,(uI BF3).2.1 2 _ rfl,(uI BF3).2.1 3 _ rfl⟩
   have hsF:=(uI BF3).1
   by_cases he:er=0
   ·subst he
    obtain rfl:R=((qb,qs),0):=by rw[uI HRR,if_pos rfl]
    go_wp2_with fail
    obtain⟨p0,p1⟩:=((uI S3).R.two9 (.int .i64 qb) (.bool qs)).at2
    exact bodyPost_ret (v:=.tuple #[.agg #[.int .i64 qb,.bool qs],.int .i64 0]) (by simp[results,Tryz.results135,go_sem,p0,p1]) rfl ⟨rfl,(by repeat (first|exact (uI S3).d|refine Below.setCell ?_ (by first|exact Nat.le_refl _|(simp;done)|omega|(simp;omega)) _|refine Below.alloc ?_ (by first|(simp;done)|omega|(simp;omega)) _))⟩
   ·obtain rfl:R=((0,false),er):=by rw[uI HRR,if_neg he]
    have he1:(er != 0)=true:=bne_iff_ne.2 he
    clear he
    go_wp2_with fail
    obtain⟨p0,p1⟩:=((uI S3).R.two9 (.int .i64 0) (.bool false)).at2
    exact bodyPost_ret (v:=.tuple #[.agg #[.int .i64 0,.bool false],.int .i64 er]) (by simp[results,Tryz.results135,go_sem,p0,p1]) rfl ⟨rfl,(by repeat (first|exact (uI S3).d|refine Below.setCell ?_ (by first|exact Nat.le_refl _|(simp;done)|omega|(simp;omega)) _|refine Below.alloc ?_ (by first|(simp;done)|omega|(simp;omega)) _))⟩
  ·rw[if_neg hl] at hR
   subst hR
   have hl1:((x.kids.length:Int) != (qm:Int))=true:=bne_iff_ne.2 (by omega)
   have hl2:((x.kids.length:Int)==(qm:Int))=false:=zBq (by omega)
   clear hl
   go_wp2_with fail
   obtain⟨p0,p1⟩:=((uI S1).R.two9 (.int .i64 0) (.bool false)).at2
   exact bodyPost_ret (v:=.tuple #[.agg #[.int .i64 0,.bool false],.int .i64 5]) (by simp[results,Tryz.results135,go_sem,p0,p1]) rfl ⟨rfl,(by repeat (first|exact (uI S1).d|refine Below.setCell ?_ (by first|exact Nat.le_refl _|(simp;done)|omega|(simp;omega)) _|refine Below.alloc ?_ (by first|(simp;done)|omega|(simp;omega)) _))⟩
end Go.Proofs.YtjpnnmkefaodoaaGreat
