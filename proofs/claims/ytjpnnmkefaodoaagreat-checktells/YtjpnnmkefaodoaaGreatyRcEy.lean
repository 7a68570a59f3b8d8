/-
  RcE, RcF.
-/
import Derived.Test.YtjpnnmkefaodoaaGreatyRcDy
import Derived.Test.YtjpnnmkefaodoaaGreatyCcFy
set_option maxHeartbeats 8000000
set_option maxRecDepth 100000
namespace Go.Proofs.YtjpnnmkefaodoaaGreat
open Go.RowKit Go.Maps Go.Great
set_option linter.unusedSimpArgs false
set_option linter.unusedVariables false
def fOf (fs:List Fn8)(k:ByteArray):Option (Int × Bool × Nat):=if k=nPut then some (0,false,1) else if k=nGet then some (16,true,0) else (fs.find? fun f=>decide (f.nm=k)).map fun f=>(f.b,f.s,f.params.length)
theorem fOf_at {fs:List Fn8}{k:ByteArray}(h1:k≠nPut)(h2:k≠nGet)(i:Nat)(h:i<fs.length)(hb:∀ j (_:j<i) (h':j<fs.length),fs[j].nm≠k)(e:fs[i].nm=k):fOf fs k=some (fs[i].b,fs[i].s,fs[i].params.length):=by
 have e2:(fs.find? fun f=>decide (f.nm=k))=some fs[i]:=by
  rw[List.find?_eq_some_iff_getElem]
  exact⟨by simpa using e,i,h,rfl,fun j hj=>by simpa using hb j hj (by omega)⟩
 unfold fOf
 rw[if_neg h1,if_neg h2,e2]
 rfl
theorem fOf_none {fs:List Fn8}{k:ByteArray}(h1:k≠nPut)(h2:k≠nGet)(h:∀ f∈fs,f.nm≠k):fOf fs k=none:=by
 unfold fOf
 rw[if_neg h1,if_neg h2,List.find?_eq_none.2 (fun x hx=>by simpa using h x hx)]
 rfl
def CdR (o:Option (Int × Bool × Nat))(w:World)(e:Ending)(w':World):Prop:=∃ b s a c m,e=.returned (.tuple #[.agg #[.int .i64 b,.bool s],.slice a m c,.bool o.isSome])∧(∀ y,o=some y→y=(b,s,m))∧m≤9223372036854775807∧Below w.heap.size w w'
theorem called9_any (p:Pg)(v1 v2:Value)(B:Nat)(w:World)(hp:PgL B w v1 v2 p)(hB:B≤w.heap.size)(nm:ByteArray)(hpl:∀ f∈p.funcs,f.params.length≤8) :
  Calls Tryz.prog 117 #[.agg #[v1,v2],.string nm] w (CdR (fOf p.funcs nm) w):=by
 obtain⟨ga,gc,rfl,hgm⟩:=hp.g.slice
 obtain⟨fa,fc,rfl,hfm⟩:=hp.f.slice
 unfold maxLen at hgm hfm
 obtain⟨Q,hQ⟩:∃ Q,Q=CdR (fOf p.funcs nm) w:=⟨_,rfl⟩
 rw[← hQ]
 have HQ:=zH hQ
 clear hQ
 have hpl:=zH hpl
 have k1:=qaa w (.cells #[.slice ga p.globals.length gc,.slice fa p.funcs.length fc] 25)
 have k2:=bT k1 (qaa _ (.cells #[.int .i64 0,.bool false] 34))
 have BP:=(Box.new w #[.slice ga p.globals.length gc,.slice fa p.funcs.length fc] 25).step (qaa _ (.cells #[.int .i64 0,.bool false] 34))
 have BR:=Box.new (w.alloc (.cells #[.slice ga p.globals.length gc,.slice fa p.funcs.length fc] 25)) #[.int .i64 0,.bool false] 34
 rw[World.heap_alloc_size] at BR
 have HBP:=zH BP
 have HBR:=zH BR
 have HF:=zH (hp.f.step (k2.mono hB))
 have HK:=zH k2
 have hsz:=k2.size
 have RI:=zH (fun w=>qa2 w)
 obtain⟨z0,z1⟩:=BR.at2
 have zf:=BR.2.2
 have zl:=BR.1
 obtain⟨c0,c1⟩:=BP.at2
 clear k1 k2 BP BR hp
 by_cases q1:nm.toList=[112,117,116]
 ·have e1:(nm.toList==[112,117,116])=true:=beq_iff_eq.2 q1
  have HO:=zH (show fOf p.funcs nm=some (0,false,1) from if_pos (toL_inj (q1.trans (by kernel_rfl))))
  clear q1
  go_enter Tryz.func117,Tryz.ntmps117
  go_wp2_with fail
  generalize (w.alloc (.cells #[.slice ga p.globals.length gc,.slice fa p.funcs.length fc] 25)).alloc (.cells #[.int .i64 0,.bool false] 34)=W0 at *
  refine (uI RI _).mono ?_
  rintro e w3 ⟨rfl,k3⟩
  have BR3:=(uI HBR).step k3
  have K3:=zH (bT (uI HK) k3)
  clear z0 z1 zf zl c0 c1
  obtain⟨z0,z1⟩:=BR3.at2
  have zf:=BR3.2.2
  have zl:=BR3.1
  go_wp2_with fail
  have K5:=qa3 (zY (uI K3) (show w.heap.size≤w.heap.size+1 by omega) (.int .i64 0) (.bool false)) (Nat.le_refl _) (.cells #[.int .i64 16,.bool true] 34)
  obtain⟨p0,p1⟩:=((BR3.two9 (.int .i64 0) (.bool false)).step (qaa _ (.cells #[.int .i64 16,.bool true] 34))).at2
  generalize ((w3.setCell ⟨w.heap.size+1,0,none⟩ (.int .i64 0)).setCell ⟨w.heap.size+1,1,none⟩ (.bool false)).alloc (.cells #[.int .i64 16,.bool true] 34)=W5 at *
  refine bodyPost_ret (v:=.tuple #[.agg #[.int .i64 0,.bool false],.slice (some ⟨w3.heap.size,0,none⟩) 1 1,.bool true]) (by simp[results,Tryz.results117,go_sem,p0,p1]) rfl ?_
  rw[uI HQ]
  unfold CdR
  rw[uI HO]
  exact⟨_,_,_,_,_,rfl,fun y hy=>by injection hy with hy;exact hy.symm,by omega,K5⟩
 have e1:(nm.toList==[112,117,116])=false:=zBq q1
 have Q1:=zH (show nm≠nPut from by rintro rfl;exact q1 (by kernel_rfl))
 by_cases q2:nm.toList=[103,101,116]
 ·have e2:(nm.toList==[103,101,116])=true:=beq_iff_eq.2 q2
  have HO:=zH (show fOf p.funcs nm=some (16,true,0) from (if_neg (uI Q1)).trans (if_pos (toL_inj (q2.trans (by kernel_rfl)))))
  clear q2 q1
  go_enter Tryz.func117,Tryz.ntmps117
  go_wp2_with fail
  generalize (w.alloc (.cells #[.slice ga p.globals.length gc,.slice fa p.funcs.length fc] 25)).alloc (.cells #[.int .i64 0,.bool false] 34)=W0 at *
  refine (uI RI _).mono ?_
  rintro e w3 ⟨rfl,k3⟩
  have BR3:=(uI HBR).step k3
  have K3:=zH (bT (uI HK) k3)
  clear z0 z1 zf zl c0 c1
  obtain⟨z0,z1⟩:=BR3.at2
  have zf:=BR3.2.2
  have zl:=BR3.1
  go_wp2_with fail
  have K5:=zY (uI K3) (show w.heap.size≤w.heap.size+1 by omega) (.int .i64 16) (.bool true)
  obtain⟨p0,p1⟩:=(BR3.two9 (.int .i64 16) (.bool true)).at2
  generalize (w3.setCell ⟨w.heap.size+1,0,none⟩ (.int .i64 16)).setCell ⟨w.heap.size+1,1,none⟩ (.bool true)=W5 at *
  refine bodyPost_ret (v:=.tuple #[.agg #[.int .i64 16,.bool true],.slice none 0 0,.bool true]) (by simp[results,Tryz.results117,go_sem,p0,p1]) rfl ?_
  rw[uI HQ]
  unfold CdR
  rw[uI HO]
  exact⟨_,_,_,_,_,rfl,fun y hy=>by injection hy with hy;exact hy.symm,by omega,K5⟩
 have e2:(nm.toList==[103,101,116])=false:=zBq q2
 have Q2:=zH (show nm≠nGet from by rintro rfl;exact q2 (by kernel_rfl))
 clear q1 q2 RI
 go_enter Tryz.func117,Tryz.ntmps117
 go_wp2_with fail
 generalize (w.alloc (.cells #[.slice ga p.globals.length gc,.slice fa p.funcs.length fc] 25)).alloc (.cells #[.int .i64 0,.bool false] 34)=W0 at *
 clear z0 z1 zf zl c0 c1 e1 e2
 go_loopg [23] p.funcs.length (fun g t wr=>∃ (i:Nat),i≤p.funcs.length∧g=p.funcs.length - i∧t=.int .i64 (i:Int)∧Hid (Below W0.heap.size W0 wr)∧Hid (∀ j (_:j<i) (h':j<p.funcs.length),p.funcs[j].nm≠nm))
 case atStart=>exact⟨0,Nat.zero_le _,rfl,rfl,zH (Below.refl _ _),zH (fun j h _=>absurd h (Nat.not_lt_zero _))⟩
 case round =>
  obtain⟨i,hi,hg,rfl,HC,HM⟩:=hrel
  generalize wr=V0 at *
  have P5:=(uI HF).step ((uI HC).mono (Nat.le_trans hB hsz))
  have BRV:=zH ((uI HBR).step (uI HC))
  have KV:=zH (bT (uI HK) (uI HC))
  by_cases hlt:i<p.funcs.length
  ·obtain⟨b1,o1,pa,pc,sa,sc,rfl,hb1,hnm,hx,hy,x0,x1,x2,x3,x4⟩:=P5.read i hlt
   have hiI:(i:Int)<(p.funcs.length:Int):=by omega
   have hi0:(0:Int)≤(i:Int):=by omega
   obtain⟨y,hyy⟩:∃ y,y=p.funcs[i]:=⟨_,rfl⟩
   rw[← hyy] at x0 x1 x2 x3 x4 hnm hx hy
   have HY:=zH hyy
   have ka:=qaa V0 (.cells #[.string y.nm,.int .i64 y.b,.bool y.s,.slice pa y.params.length pc,.slice sa y.body.length sc] 41)
   have KA:=zH (bT (uI HC) ka)
   have KVA:=zH (bT (uI KV) ka)
   have BF:=zH (Box.new V0 #[.string y.nm,.int .i64 y.b,.bool y.s,.slice pa y.params.length pc,.slice sa y.body.length sc] 41)
   have BRA:=zH ((uI BRV).step ka)
   have HPM:=zH (hx.step (ka.mono (by have:=(uI KV).size;omega)))
   obtain⟨_,_,_,hpm⟩:=hx.slice
   unfold maxLen at hpm
   have HPL:=zH (show y.params.length≤8 from by rw[hyy];exact uI hpl _ (List.getElem_mem hlt))
   clear hyy hx hy P5 ka
   by_cases hnn:y.nm.toList=nm.toList
   ·have e1:(y.nm.toList==nm.toList)=true:=beq_iff_eq.2 hnn
    have HW:=zH (show fOf p.funcs nm=some (y.b,y.s,y.params.length) from by
     rw[fOf_at (uI Q1) (uI Q2) i hlt (uI HM) (by rw[← uI HY];exact toL_inj hnn),← uI HY])
    clear hnn HM HY hnm
    go_wp2_with fail
    generalize V0.alloc (.cells #[.string y.nm,.int .i64 y.b,.bool y.s,.slice pa y.params.length pc,.slice sa y.body.length sc] 41)=V1 at *
    obtain⟨it,hj0,hy0,hy1,hy2⟩:=qbb infoTy9
    clear x0 x1 x2 x3 x4
    go_loopg [9,34] y.params.length (fun g v t wr=>∃ (j:Nat),j≤y.params.length∧g=y.params.length - j∧t=.int .i64 (j:Int)∧Hid (Below V1.heap.size V1 wr)∧Hid (∃ cs,wr.ownsRow V1.heap.size 34 2 v j cs))
    case atStart=>exact⟨0,Nat.zero_le _,rfl,rfl,zH (Below.refl _ _),zH ⟨[],World.ownsRow_nil _ _ _ _⟩⟩
    case round =>
     obtain⟨j,hj,hgj,rfl,HC2,HO⟩:=hrel
     obtain⟨cs,ho⟩:=uI HO
     obtain⟨oa,oc,rfl⟩:=qaj ho
     have HO2:=zH ho
     clear ho HO
     generalize wr=V2 at *
     by_cases hlt2:j<y.params.length
     ·obtain⟨b2,o2,rfl,hb2,hnm2,x0,x1,x2⟩:=((uI HPM).step ((uI HC2).mono (by have:=(uI KVA).size;omega))).read j hlt2
      have hjI:(j:Int)<(y.params.length:Int):=by omega
      have hj0':(0:Int)≤(j:Int):=by omega
      clear hnm2
      generalize y.params[j]=q at *
      have kp:=qaa V2 (.cells #[.int .i64 q.b,.bool q.s,.string q.nm] 74)
      have kt:=qaa (V2.alloc (.cells #[.int .i64 q.b,.bool q.s,.string q.nm] 74)) (.cells #[.int .i64 q.b,.bool q.s] 34)
      have BN:=Box.new (V2.alloc (.cells #[.int .i64 q.b,.bool q.s,.string q.nm] 74)) #[.int .i64 q.b,.bool q.s] 34
      rw[World.heap_alloc_size] at BN
      have HO3:=zH (qay (uI HO2) (bT kp kt))
      have HC3:=zH (bT (uI HC2) (bT kp kt))
      have HBN:=zH BN
      have hj9:j≤9223372036854775806:=by omega
      have HL:=zH (show V1.heap.size≤((V2.alloc (.cells #[.int .i64 q.b,.bool q.s,.string q.nm] 74)).alloc (.cells #[.int .i64 q.b,.bool q.s] 34)).heap.size from (bT (uI HC2) (bT kp kt)).size)
      clear kp kt BN
      go_wp2_with (at_builtin;refine qav rfl (.tmp 38) (.tmp 41) 65 rfl V1.heap.size 34 it (.agg #[.int .i64 0,.bool false]) 2 16 Tryz.underlying65 hj0 hy0 hy1 hy2 rfl (by decide) _ _ _ rfl (uI HO3) _ 1 [.int .i64 q.b,.bool q.s] rfl (lies_one2 (uI HBN)) (by intro u hu;simp only[List.mem_cons,List.not_mem_nil,or_false] at hu;rcases hu with rfl|rfl <;> rfl) (by unfold maxLen;omega) (by have:=(uI HPL);omega) (uI HL) ?_;intro v5 w5 o5 g5;have HO5:=zH (show ∃ cs,w5.ownsRow V1.heap.size 34 2 v5 (j+1) cs from⟨_,o5⟩);have HC5:=zH (grown_below3 (uI HC3) (uI HL) (fun b hb=>((uI HO3).lt b hb).1) g5);clear o5 g5)
      go_roundg (y.params.length - (j+1))
      case measure=>omega
      case rel=>exact⟨j+1,by omega,rfl,by go_num,HC5,HO5⟩
     ·have hjI:¬ (j:Int)<(y.params.length:Int):=by omega
      obtain rfl:j=y.params.length:=by omega
      have BR2:=(uI BRA).step (uI HC2)
      have BF2:=(uI BF).step (uI HC2)
      obtain⟨z0,z1⟩:=BR2.at2
      have zf:=BR2.2.2
      have zl:=BR2.1
      obtain⟨y0,y1,y2,y3,y4⟩:=qat BF2
      have hyl:=BF2.1
      have KV2:=bT (uI KVA) (uI HC2)
      clear HPM BF2
      go_wp2_with fail
      have K5:=zY KV2 (show w.heap.size≤w.heap.size+1 by omega) (.int .i64 y.b) (.bool y.s)
      obtain⟨p0,p1⟩:=(BR2.two9 (.int .i64 y.b) (.bool y.s)).at2
      generalize (V2.setCell ⟨w.heap.size+1,0,none⟩ (.int .i64 y.b)).setCell ⟨w.heap.size+1,1,none⟩ (.bool y.s)=W5 at *
      refine bodyPost_ret (v:=.tuple #[.agg #[.int .i64 y.b,.bool y.s],.slice oa y.params.length oc,.bool true]) (by simp[results,Tryz.results117,go_sem,p0,p1]) rfl ?_
      rw[uI HQ]
      unfold CdR
      rw[uI HW]
      exact⟨_,_,_,_,_,rfl,fun t ht=>by injection ht with ht;exact ht.symm,by omega,K5⟩
   ·have e1:(y.nm.toList==nm.toList)=false:=zBq hnn
    have HNN:=zH (show y.nm≠nm from fun e=>hnn (by rw[e]))
    clear hnn
    go_wp2_with fail
    go_roundg (p.funcs.length - (i+1))
    case measure=>omega
    case rel =>
     refine⟨i+1,by omega,rfl,by go_num,KA,zH (fun j h h'=>?_)⟩
     by_cases hji:j=i
     ·subst hji;rw[← uI HY];exact uI HNN
     ·exact uI HM j (by omega) h'
  ·have hiI:¬ (i:Int)<(p.funcs.length:Int):=by omega
   have HW:=zH (show fOf p.funcs nm=none from fOf_none (uI Q1) (uI Q2) (fun g hg=>by obtain⟨j,hj,rfl⟩:=List.mem_iff_getElem.1 hg;exact uI HM j (by omega) hj))
   clear P5
   obtain⟨z0,z1⟩:=(uI BRV).at2
   have zf:=(uI BRV).2.2
   have zl:=(uI BRV).1
   go_wp2_with fail
   have K5:=zY (uI KV) (show w.heap.size≤w.heap.size+1 by omega) (.int .i64 0) (.bool false)
   obtain⟨p0,p1⟩:=((uI BRV).two9 (.int .i64 0) (.bool false)).at2
   generalize (V0.setCell ⟨w.heap.size+1,0,none⟩ (.int .i64 0)).setCell ⟨w.heap.size+1,1,none⟩ (.bool false)=W5 at *
   refine bodyPost_ret (v:=.tuple #[.agg #[.int .i64 0,.bool false],.slice none 0 0,.bool false]) (by simp[results,Tryz.results117,go_sem,p0,p1]) rfl ?_
   rw[uI HQ]
   unfold CdR
   rw[uI HW]
   exact⟨_,_,_,_,0,rfl,fun y hy=>(by cases hy),by omega,K5⟩
structure EvP (p:Pg)(E:Nev):Prop where
 v:∀ k,E.v k=vOf p.globals k
 f:∀ k,E.f k=fOf p.funcs k
 pl:∀ f∈p.funcs,f.params.length≤8
 gw:∀ g∈p.globals,IsW g.b
 fw:∀ f∈p.funcs,IsW f.b∨(f.b=0∧f.s=false)
theorem EvP.vw {p:Pg}{E:Nev}(h:EvP p E){k:ByteArray}{y:Int × Bool × Bool}(e:E.v k=some y):IsW y.1:=by
 rw[h.v] at e
 unfold vOf at e
 cases e2:p.globals.find? fun g=>decide (g.nm=k) with
 | none=>rw[e2] at e;cases e
 | some g =>
  rw[e2] at e
  injection e with e
  subst e
  exact h.gw g (List.mem_of_find?_eq_some e2)
theorem EvP.fw2 {p:Pg}{E:Nev}(h:EvP p E){k:ByteArray}{y:Int × Bool × Nat}(e:E.f k=some y):IsW y.1∨(y.1=0∧y.2.1=false):=by
 rw[h.f] at e
 unfold fOf at e
 split at e
 ·injection e with e;subst e;exact .inr ⟨rfl,rfl⟩
 ·split at e
  ·injection e with e;subst e;exact .inl (.inr (.inl rfl))
  ·cases e2:p.funcs.find? fun f=>decide (f.nm=k) with
   | none=>rw[e2] at e;cases e
   | some f =>
    rw[e2] at e
    injection e with e
    subst e
    exact h.fw f (List.mem_of_find?_eq_some e2)
def LocW (L:Loc):Prop:=∀ k b s,L.m k=some (b,s,true)→IsW b
theorem varC_w {p:Pg}{E:Nev}(h:EvP p E){L:Loc}(hL:LocW L){k:ByteArray}{y:Int × Bool × Bool}(e:varC E L k=some y):IsW y.1:=by
 unfold varC at e
 split at e
 ·rename_i b s e2
  injection e with e
  subst e
  exact hL _ _ _ e2
 ·exact h.vw e
def TyW (t:Int × Bool):Prop:=IsW t.1∨t=(0,false)
theorem told_w {r:(Int × Bool) × Int}(h:(told r).2=0)(hw:r.2=0→TyW r.1):IsW (told r).1.1:=by
 unfold told at h ⊢
 split at h
 ·cases h
 ·rename_i h1
  rw[if_neg h1]
  rcases hw h with h2|h2
  ·exact h2
  ·exact absurd ⟨h,h2⟩ h1
theorem tyEs_w {p:Pg}{E:Nev}{L:Loc}:∀ l:List Ex,(∀ y∈l,(tyE E L y).2=0→TyW (tyE E L y).1)→(tyEs E L l).2=0→∀ t∈(tyEs E L l).1,IsW t.1:=by
 intro l
 induction l with
 | nil=>intro _ _ t ht;rw[tyEs] at ht;simp at ht
 | cons a l ih =>
  intro I h t ht
  rw[tyEs] at h ht
  split at h
  ·rename_i h1;exact absurd h h1
  rename_i h1
  split at h
  ·rename_i h2;exact absurd h h2
  rename_i h2
  rw[if_neg h1,if_neg h2] at ht
  rcases List.mem_cons.1 ht with rfl|ht
  ·exact told_w (by simpa using h1) (I a List.mem_cons_self)
  ·exact ih (fun y hy=>I y (List.mem_cons_of_mem _ hy)) (by simpa using h2) t ht
theorem tyE_w {p:Pg}{E:Nev}(h:EvP p E){L:Loc}(hL:LocW L):∀ x:Ex,TvE x→(tyE E L x).2=0→TyW (tyE E L x).1:=by
 apply Ex.ind
 intro x IH ht e
 obtain⟨_,lo,hi,kl,kh,num,cast,kt⟩:=ht
 have KS:=tyEs_w (p:=p) (E:=E) (L:=L) x.kids (fun y hy=>IH y hy (kt y hy))
 have KL:=qbk E L x.kids
 obtain⟨k,n,b,s,nm,kids⟩:=x
 simp only[Ex.k,Ex.b,Ex.kids] at *
 rw[tyE] at e ⊢
 by_cases h4:k=4
 ·rw[if_pos h4] at e ⊢
  cases hf:E.f nm with
  | none=>rw[hf] at e;cases e
  | some y =>
   rw[hf] at e
   have hw:=h.fw2 hf
   obtain⟨fb,fs,m⟩:=y
   dsimp only at e hw ⊢
   split at e
   ·rename_i h5
    rw[if_pos h5]
    split at e
    ·rename_i h6
     rw[if_pos h6]
     rcases hw with hw|⟨rfl,rfl⟩
     ·exact .inl hw
     ·exact .inr rfl
    ·rename_i h6;exact absurd e h6
   ·cases e
 ·rw[if_neg h4] at e ⊢
  split at e
  ·rename_i h5;exact absurd e h5
  rename_i h5
  rw[if_neg h5]
  have h5:(tyEs E L kids).2=0:=by simpa using h5
  split at e
  ·rename_i h6
   rw[if_pos h6]
   unfold askC at e ⊢
   split at e
   ·cases e
   ·rename_i b' s' a' e2
    split at e
    ·rename_i h7
     rw[if_pos h7]
     exact .inl (varC_w h hL e2)
    ·cases e
  ·rename_i h6
   rw[if_neg h6]
   have hks:=KS h5
   have hkl:=KL h5
   show TyW (tyO k b s (tyEs E L kids).1)
   generalize (tyEs E L kids).1=l at *
   have k15:k=1∨k=5∨6≤k:=by omega
   match l,hks,hkl with
   | [],_,hkl =>
    unfold kidLo at kl
    have:k=1:=by
     rcases k15 with h1|h1|h1
     ·exact h1
     ·simp at hkl;rw[h1,← hkl] at kl;simp at kl
     ·simp at hkl;rw[← hkl] at kl;rw[if_neg (by omega)] at kl;split at kl <;> omega
    exact .inl (num this)
   | [t],hks,hkl =>
    have w0:=hks t (by simp)
    show TyW (if k=5 then (b,s) else if k=6∨k=7 then (pb t.1,ps t.1 t.2) else (16,true))
    split
    ·rename_i h1;exact .inl (cast h1)
    ·split
     ·exact .inl (isW_p w0)
     ·exact .inl isW_169
   | t::u::r,hks,hkl =>
    have w0:=hks t (by simp)
    have w1:=hks u (by simp)
    show TyW (if k=25∨k=26 then (16,true) else (rb k t.1 u.1,rs k t.1 t.2 u.1 u.2))
    split
    ·exact .inl isW_169
    ·exact .inl (isW_rb9 w0 w1)
def ExpR (E:Nev)(L:Loc)(x:Ex)(w:World)(e:Ending)(w':World):Prop:=e=.returned (.tuple #[.agg #[.int .i64 (tyE E L x).1.1,.bool (tyE E L x).1.2],.int .i64 (tyE E L x).2])∧Below w.heap.size w w'
def ValR (E:Nev)(L:Loc)(x:Ex)(w:World)(e:Ending)(w':World):Prop:=e=.returned (.tuple #[.agg #[.int .i64 (told (tyE E L x)).1.1,.bool (told (tyE E L x)).1.2],.int .i64 (told (tyE E L x)).2])∧Below w.heap.size w w'
def RtX (x:Ex):Prop:=∀ (B:Nat) (w:World) (rb:Nat) (K:Rk) (E:Nev) (L:Loc) (lp:Nat) (kv:Value),Rm B w rb K L lp→EvP K.p E→LocW L→ExL B w kv x.kids→ExF x →
 Calls Tryz.prog 77 #[.pointer (some ⟨rb,0,none⟩),.agg #[.int .i64 x.k,.int .u64 x.n,.int .i64 x.b,.bool x.s,.string x.nm,kv]] w (ExpR E L x w)
def RvX (x:Ex):Prop:=∀ (B:Nat) (w:World) (rb:Nat) (K:Rk) (E:Nev) (L:Loc) (lp:Nat) (kv:Value),Rm B w rb K L lp→EvP K.p E→LocW L→ExL B w kv x.kids→ExF x →
 Calls Tryz.prog 75 #[.pointer (some ⟨rb,0,none⟩),.agg #[.int .i64 x.k,.int .u64 x.n,.int .i64 x.b,.bool x.s,.string x.nm,kv]] w (ValR E L x w)
theorem value9_any (x:Ex)(ht:TvE x)(H:RtX x):RvX x:=by
 intro B w rb K E L lp kv h hE hL hx hf
 obtain⟨ka,kc,rfl⟩:∃ ao cap,kv=.slice ao x.kids.length cap:=by obtain⟨ao,cap,e,-⟩:=hx.at;exact⟨ao,cap,e⟩
 have hW:=tyE_w hE hL x ht
 have S0:=zH (Tv.begin #[.int .i64 0,.bool false] 57 34 hx h.le)
 have CT:=H B _ rb K E L lp _ (h.step (uI S0).d) hE hL (uI S0).hk hf
 have hP:ValR E L x w=fun e w'=>e=.returned (.tuple #[.agg #[.int .i64 (told (tyE E L x)).1.1,.bool (told (tyE E L x)).1.2],.int .i64 (told (tyE E L x)).2])∧Below w.heap.size w w':=rfl
 rw[hP]
 unfold ExpR at CT
 clear hP H
 generalize tyE E L x=R at *
 obtain⟨⟨b,s⟩,er⟩:=R
 dsimp only at CT hW
 have CT:=zH CT
 obtain⟨a0,a1,a2,a3,a4,a5⟩:=(uI S0).A.six8
 have hsA:=(uI S0).A.1
 clear h hE hL hx hf ht
 generalize hW0:(w.alloc (.cells #[.int .i64 x.k,.int .u64 x.n,.int .i64 x.b,.bool x.s,.string x.nm,.slice ka x.kids.length kc] 57)).alloc (.cells #[.int .i64 0,.bool false] 34)=W0 at *
 obtain⟨R2,hR2⟩:∃ R2,R2=told ((b,s),er):=⟨_,rfl⟩
 rw[← hR2]
 have HR:=zH hR2
 have HW:=zH hW
 clear hR2 hW
 go_enter Tryz.func75,Tryz.ntmps75
 go_wp2_with fail
 refine (uI CT).mono ?_
 rintro e w1 ⟨rfl,k1⟩
 have S1:=zH ((uI S0).next k1)
 clear CT S0 k1 a0 a1 a2 a3 a4 a5 hsA
 have S2:=zH ((uI S1).next (qaa w1 (.cells #[.int .i64 b,.bool s] 34)))
 obtain⟨z0,z1⟩:=(uI S1).R.at2
 have zf:=(uI S1).R.2.2
 have zl:=(uI S1).R.1
 have B2:=zH (Box.new w1 #[.int .i64 b,.bool s] 34)
 have fin:∀ (p q:Int) (c:Bool),R2=((p,c),q)→True:=fun _ _ _ _=>trivial
 clear fin
 by_cases he:er=0
 ·subst he
  by_cases hb:b=0
  ·subst hb
   have hs:s=false:=by
    rcases uI HW rfl with h1|h1
    ·rcases h1 with h1|h1|h1|h1 <;> cases h1
    ·injection h1
   subst hs
   obtain rfl:R2=((0,false),9):=by rw[uI HR];rfl
   go_wp2_with fail
   have K5:=qa3 (zY (uI S1).d (show w.heap.size≤w.heap.size+1 by omega) (.int .i64 0) (.bool false)) (Nat.le_refl _) (.cells #[.int .i64 0,.bool false] 34)
   obtain⟨p0,p1⟩:=(((uI S1).R.two9 (.int .i64 0) (.bool false)).step (qaa _ (.cells #[.int .i64 0,.bool false] 34))).at2
   exact bodyPost_ret (v:=.tuple #[.agg #[.int .i64 0,.bool false],.int .i64 9]) (by simp[results,Tryz.results75,go_sem,p0,p1]) rfl ⟨rfl,K5⟩
  ·have eb:(b==0)=false:=zBq hb
   obtain rfl:R2=((b,s),0):=by rw[uI HR];exact if_neg (fun q=>hb (by have:=q.2;injection this))
   go_wp2_with fail
   have K5:=qa3 (zY (uI S1).d (show w.heap.size≤w.heap.size+1 by omega) (.int .i64 b) (.bool s)) (Nat.le_refl _) (.cells #[.int .i64 b,.bool s] 34)
   obtain⟨p0,p1⟩:=(((uI S1).R.two9 (.int .i64 b) (.bool s)).step (qaa _ (.cells #[.int .i64 b,.bool s] 34))).at2
   exact bodyPost_ret (v:=.tuple #[.agg #[.int .i64 b,.bool s],.int .i64 0]) (by simp[results,Tryz.results75,go_sem,p0,p1]) rfl ⟨rfl,K5⟩
 ·have ee:(er==0)=false:=zBq he
  obtain rfl:R2=((b,s),er):=by rw[uI HR];exact if_neg (fun q=>he q.1)
  go_wp2_with fail
  have K5:=qa3 (zY (uI S1).d (show w.heap.size≤w.heap.size+1 by omega) (.int .i64 b) (.bool s)) (Nat.le_refl _) (.cells #[.int .i64 b,.bool s] 34)
  obtain⟨p0,p1⟩:=(((uI S1).R.two9 (.int .i64 b) (.bool s)).step (qaa _ (.cells #[.int .i64 b,.bool s] 34))).at2
  exact bodyPost_ret (v:=.tuple #[.agg #[.int .i64 b,.bool s],.int .i64 er]) (by simp[results,Tryz.results75,go_sem,p0,p1]) rfl ⟨rfl,K5⟩
end Go.Proofs.YtjpnnmkefaodoaaGreat
