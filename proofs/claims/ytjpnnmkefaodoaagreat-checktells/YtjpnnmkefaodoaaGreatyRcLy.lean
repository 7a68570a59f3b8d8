/-
  RcL, RcM, BigO.
-/
import Derived.Test.YtjpnnmkefaodoaaGreatyRcKy
set_option maxHeartbeats 8000000
set_option maxRecDepth 100000
namespace Go.Proofs.YtjpnnmkefaodoaaGreat
open Go.RowKit Go.Maps Go.Great
set_option linter.unusedSimpArgs false
set_option linter.unusedVariables false
theorem stat9_any (E:Nev)(res:Int × Bool)(hw:IsW res.1∨(res.1=0∧res.2=false)):∀ x:Sm,TvS x→NmS x→RsSm E res x:=by
 apply Sm.ind
 intro x I1 I2 I3 I4 ht hn B w rb K L lp v h hE hL hres hs hf hfr hlp
 obtain⟨_,hx,hi,hb,h1,h2,h3,h4⟩:=ht
 obtain⟨_,hnm,n1,n2,n3,n4⟩:=hn
 obtain⟨z1,z5,z6,z7⟩:=szS_at x
 generalize szS x=z at *
 rw[ckS_eq]
 by_cases k2:x.k=2
 ·rw[if_pos k2]
  exact st9_2 E res x v k2 B w rb K L lp (fun o=>hx (.inr ⟨.inl k2,o⟩)) (by omega) (hb k2) h hE hL hres hs hf
 rw[if_neg k2]
 by_cases k3:x.k=3
 ·rw[if_pos k3]
  exact st9_3 E res x v k3 B w rb K L lp (hx (.inl (.inl k3))) (hi k3) h hE hL hres hs hf
 rw[if_neg k3]
 by_cases k4:x.k=4
 ·rw[if_pos k4]
  exact st9_4 E res x v k4 B w rb K L lp (hx (.inl (.inr (.inl k4)))) h hE hL hres hs hf
 rw[if_neg k4]
 by_cases k8:x.k=8
 ·rw[if_pos k8]
  exact st9_8 E res x v k8 B w rb K L lp (fun o=>hx (.inr ⟨.inr (.inr k8),o⟩)) (by rw[← hres] at hw;exact hw) h hE hL hres hs hf
 rw[if_neg k8]
 by_cases k9:x.k=9∨x.k=10
 ·rw[if_pos k9]
  exact st9_9 E res x v k9 B w rb K L lp (by omega) h hE hL hres hs hf
 rw[if_neg k9]
 by_cases k5:x.k=5
 ·rw[if_pos k5]
  exact st9_5 E res x v k5 B w rb K L lp (hx (.inl (.inr (.inr (.inl k5))))) (fun y hy=>I3 y hy (h3 (.inl k5) y hy) (n3 y hy)) (h3 (.inl k5)) n3 (by omega) (fun y hy=>I4 y hy (h4 k5 y hy) (n4 y hy)) (h4 k5) n4 (by omega) (by omega) h hE hL hres hs hf
 rw[if_neg k5]
 by_cases k6:x.k=6
 ·rw[if_pos k6]
  exact st9_6 E res x v k6 B w rb K L lp (hx (.inl (.inr (.inr (.inr k6))))) (fun y hy=>I3 y hy (h3 (.inr (.inl k6)) y hy) (n3 y hy)) (h3 (.inr (.inl k6))) n3 (by omega) (by omega) h hE hL hres hs hf
 rw[if_neg k6]
 by_cases k7:x.k=7
 ·rw[if_pos k7]
  exact st9_7 E res x v k7 B w rb K L lp (fun o=>hx (.inr ⟨.inr (.inl k7),o⟩)) (fun y hy=>I1 y hy (h1 k7 y hy) (n1 y hy)) (h1 k7) n1 (by omega) (fun y hy=>I2 y hy (h2 k7 y hy) (n2 y hy)) (h2 k7) n2 (by omega) (fun y hy=>I3 y hy (h3 (.inr (.inr (.inl k7))) y hy) (n3 y hy)) (h3 (.inr (.inr (.inl k7)))) n3 (by omega) (by omega) h hE hL hres hs hf
 rw[if_neg k7]
 by_cases k11:x.k=11
 ·rw[if_pos k11]
  exact st9_11 E res x v k11 B w rb K L lp (fun y hy=>I3 y hy (h3 (.inr (.inr (.inr k11))) y hy) (n3 y hy)) (h3 (.inr (.inr (.inr k11)))) n3 (by omega) (by omega) h hE hL hres hs hf
 rw[if_neg k11]
 exact st9_0 E res x v k2 k3 k4 k5 k6 k7 k8 (fun q=>k9 (.inl q)) (fun q=>k9 (.inr q)) k11 B w rb K L lp h hE hL hres hs hf
theorem words9_any (b:Int)(s:Bool)(w:World)(h:IsW b):Calls Tryz.prog 17 #[.agg #[.int .i64 b,.bool s]] w fun e w'=>e=.returned (.int .i64 (wds b))∧Below w.heap.size w w':=by
 rcases h with rfl|rfl|rfl|rfl
 all_goals
  go_enter Tryz.func17,Tryz.ntmps17
  go_wp2_with fail
  first
   | (go_ret;exact⟨rfl,(by repeat (first|exact (Below.refl _ _)|refine Below.setCell ?_ (by first|exact Nat.le_refl _|(simp;done)|omega|(simp;omega)) _|refine Below.alloc ?_ (by first|(simp;done)|omega|(simp;omega)) _))⟩)
   | exact⟨rfl,(by repeat (first|exact (Below.refl _ _)|refine Below.setCell ?_ (by first|exact Nat.le_refl _|(simp;done)|omega|(simp;omega)) _|refine Below.alloc ?_ (by first|(simp;done)|omega|(simp;omega)) _))⟩
def EnR (B:Nat)(w:World)(K:Rk)(R:Int × Loc)(e:Ending)(w':World):Prop:=∃ rb,e=.returned (.tuple #[.pointer (some ⟨rb,0,none⟩),.bool (R.1==0)])∧(R.1=0→Rm B w' rb K R.2 0)∧Below w.heap.size w w'
theorem enter9_any (p:Pg)(f:Fn8)(gv fv:Value)(pa sa:Option Addr)(pc sc:Nat)(w:World)(hp:PgL w.heap.size w gv fv p)(hpm:PmL w.heap.size w (.slice pa f.params.length pc) f.params)(hw:∀ q∈f.params,IsW q.b)(hl:f.params.length≤8) :
  Calls Tryz.prog 19 #[.agg #[gv,fv],.agg #[.string f.nm,.int .i64 f.b,.bool f.s,.slice pa f.params.length pc,.slice sa f.body.length sc]] w (EnR w.heap.size w ⟨p,f,gv,fv,.slice pa f.params.length pc,.slice sa f.body.length sc⟩ (ckPs f.params ⟨fun _=>none,[],0⟩)):=by
 obtain⟨ga,gc,rfl,hgm⟩:=hp.g.slice
 obtain⟨fa,fc,rfl,hfm⟩:=hp.f.slice
 have k1:=bT (qaa w (.cells #[.slice ga p.globals.length gc,.slice fa p.funcs.length fc] 25)) (qaa _ (.cells #[.string f.nm,.int .i64 f.b,.bool f.s,.slice pa f.params.length pc,.slice sa f.body.length sc] 41))
 have k2:=bT k1 (qaa _ (.cells #[.slice ga p.globals.length gc,.slice fa p.funcs.length fc,.string f.nm,.int .i64 f.b,.bool f.s,.slice pa f.params.length pc,.slice sa f.body.length sc,.slice none 0 0,.slice none 0 0,.slice none 0 0,.int .i64 0] 67))
 have hz:((w.alloc (.cells #[.slice ga p.globals.length gc,.slice fa p.funcs.length fc] 25)).alloc (.cells #[.string f.nm,.int .i64 f.b,.bool f.s,.slice pa f.params.length pc,.slice sa f.body.length sc] 41)).heap.size=w.heap.size+1+1:=by simp
 have BX:=BoxC.new ((w.alloc (.cells #[.slice ga p.globals.length gc,.slice fa p.funcs.length fc] 25)).alloc (.cells #[.string f.nm,.int .i64 f.b,.bool f.s,.slice pa f.params.length pc,.slice sa f.body.length sc] 41)) #[.slice ga p.globals.length gc,.slice fa p.funcs.length fc,.string f.nm,.int .i64 f.b,.bool f.s,.slice pa f.params.length pc,.slice sa f.body.length sc,.slice none 0 0,.slice none 0 0,.slice none 0 0,.int .i64 0] 67 (by decide)
 rw[hz] at BX
 obtain⟨K,hK⟩:∃ K:Rk,K=⟨p,f,.slice ga p.globals.length gc,.slice fa p.funcs.length fc,.slice pa f.params.length pc,.slice sa f.body.length sc⟩:=⟨_,rfl⟩
 have R0:Rm w.heap.size (((w.alloc (.cells #[.slice ga p.globals.length gc,.slice fa p.funcs.length fc] 25)).alloc (.cells #[.string f.nm,.int .i64 f.b,.bool f.s,.slice pa f.params.length pc,.slice sa f.body.length sc] 41)).alloc (.cells #[.slice ga p.globals.length gc,.slice fa p.funcs.length fc,.string f.nm,.int .i64 f.b,.bool f.s,.slice pa f.params.length pc,.slice sa f.body.length sc,.slice none 0 0,.slice none 0 0,.slice none 0 0,.int .i64 0] 67)) (w.heap.size+1+1) K ⟨fun _=>none,[],0⟩ 0:=by
  rw[hK]
  exact⟨⟨_,_,_,[],[],[],BX,World.ownsRow_nil _ _ _ _,World.ownsRow_nil _ _ _ _,World.ownsRow_nil _ _ _ _,Rel.start,rfl,Nat.zero_le _,fun k hk=>by simp at hk⟩,⟨hp.g.step k2,hp.f.step k2⟩,by omega⟩
 have HR0:=zH R0
 have HPM:=zH hpm
 have HW:=zH hw
 have K0:=zH k2
 obtain⟨R,hR⟩:∃ R,R=ckPs f.params ⟨fun _=>none,[],0⟩:=⟨_,rfl⟩
 rw[← hR,← hK]
 obtain⟨Q,hQ⟩:∃ Q,Q=EnR w.heap.size w K R:=⟨_,rfl⟩
 rw[← hQ]
 have HQ:=zH hQ
 have HE0:=zH (show ckPs (f.params.drop 0) ⟨fun _=>none,[],0⟩=R from hR.symm)
 clear hp hpm hw k1 k2 BX hz R0 hK hR hQ
 go_enter Tryz.func19,Tryz.ntmps19
 go_wp2_with fail
 generalize (((w.alloc (.cells #[.slice ga p.globals.length gc,.slice fa p.funcs.length fc] 25)).alloc (.cells #[.string f.nm,.int .i64 f.b,.bool f.s,.slice pa f.params.length pc,.slice sa f.body.length sc] 41)).alloc (.cells #[.slice ga p.globals.length gc,.slice fa p.funcs.length fc,.string f.nm,.int .i64 f.b,.bool f.s,.slice pa f.params.length pc,.slice sa f.body.length sc,.slice none 0 0,.slice none 0 0,.slice none 0 0,.int .i64 0] 67))=W0 at *
 go_loopg [16] f.params.length (fun g t wr=>∃ (i:Nat) (M:Loc),i≤f.params.length∧g=f.params.length - i∧t=.int .i64 (i:Int)∧M.fr≤4*(i:Int)∧Hid (Rm w.heap.size wr (w.heap.size+1+1) K M 0)∧Hid (Below w.heap.size w wr)∧Hid (ckPs (f.params.drop i) M=R))
 case atStart=>exact⟨0,_,Nat.zero_le _,rfl,rfl,Int.le_refl _,HR0,K0,HE0⟩
 case round =>
  clear HR0 K0 HE0
  obtain⟨i,M,hi,hg,rfl,hfr,HC,HK,HE⟩:=hrel
  generalize wr=V0 at *
  by_cases hlt:i<f.params.length
  ·obtain⟨b1,o1,rfl,hb1,hnm,x0,x1,x2⟩:=((uI HPM).step (uI HK)).read i hlt
   have hiI:(i:Int)<(f.params.length:Int):=by omega
   have hi0:(0:Int)≤(i:Int):=by omega
   have HD:=zH (show f.params.drop i=f.params[i]::f.params.drop (i+1) from List.drop_eq_getElem_cons hlt)
   rw[uI HD,ckPs] at HE
   have ka:=qaa V0 (.cells #[.int .i64 f.params[i].b,.bool f.params[i].s,.string f.params[i].nm] 74)
   have CA:=zH (radd9_any w.heap.size (V0.alloc (.cells #[.int .i64 f.params[i].b,.bool f.params[i].s,.string f.params[i].nm] 74)) _ K M 0 ((uI HC).step ka) f.params[i].b f.params[i].s f.params[i].nm hnm (by omega) ((uI HW) _ (List.getElem_mem hlt)))
   have GD:=zH (gd_decl M f.params[i].b f.params[i].s f.params[i].nm hnm)
   have KA:=zH ((uI HK).trans (ka.mono (uI HK).size))
   have HFR:=zH hfr
   clear HD ka hnm hfr HC HK
   generalize f.params[i]=y at *
   obtain⟨yb,ys,yn⟩:=y
   dsimp only at *
   have HD1:=zH (show (declC M yb ys yn).1=if (M.m yn).isSome=true then 7 else 0 from by unfold declC;split <;> rfl)
   generalize (M.m yn).isSome=mb at *
   generalize declC M yb ys yn=T at *
   obtain⟨er,N⟩:=T
   dsimp only at *
   go_wp2_with fail
   refine (uI CA).mono ?_
   rintro e V1 ⟨rfl,hrm,k4⟩
   have HRM:=zH hrm
   have K4:=zH ((uI KA).trans k4.below)
   clear CA hrm k4 KA
   cases mb
   ·obtain rfl:er=0:=uI HD1
    go_wp2_with fail
    go_roundg (f.params.length - (i+1))
    case measure=>omega
    case rel =>
     have:=(uI GD).2.1
     have:=uI HFR
     exact⟨i+1,N,by omega,rfl,by go_num,by omega,HRM,K4,zH (by have:=uI HE;simpa [thc] using this)⟩
   ·obtain rfl:er=7:=uI HD1
    have hR:R=(7,N):=by have:=uI HE;unfold thc at this;rw[if_pos (by simp)] at this;exact this.symm
    subst hR
    go_wp2_with fail
    rw[uI HQ]
    exact⟨_,rfl,fun q=>(by cases q),uI K4⟩
  ·have hiI:¬ (i:Int)<(f.params.length:Int):=by omega
   have h2:=uI HE
   rw[List.drop_eq_nil_of_le (by omega),ckPs] at h2
   subst h2
   go_wp2_with fail
   rw[uI HQ]
   exact⟨_,rfl,fun _=>uI HC,uI HK⟩
theorem taken_no {E:Nev}{k:ByteArray}(h:E.taken k=false):E.v k=none∧E.f k=none:=by
 unfold Nev.taken at h
 rw[Bool.or_eq_false_iff] at h
 constructor
 ·cases e:E.v k with
  | none=>rfl
  | some y=>rw[e] at h;cases h.1
 ·cases e:E.f k with
  | none=>rfl
  | some y=>rw[e] at h;cases h.2
theorem adV_taken {E:Nev}{n:Int}{g:Gb}(h:adV E n g=0):E.taken g.nm=false:=by
 unfold adV at h
 split at h
 ·cases h
 ·rename_i h1;simpa using h1
theorem vOf_cons (g:Gb)(gs:List Gb)(k:ByteArray):vOf (g::gs) k=if g.nm=k then some (g.b,g.s,decide (0<g.size)) else vOf gs k:=by
 unfold vOf
 rw[List.find?_cons]
 by_cases h:g.nm=k
 ·rw[decide_eq_true h,if_pos h];rfl
 ·rw[decide_eq_false h,if_neg h]
def fFind (fs:List Fn8)(k:ByteArray):Option (Int × Bool × Nat):=(fs.find? fun f=>decide (f.nm=k)).map fun f=>(f.b,f.s,f.params.length)
theorem fFind_cons (f:Fn8)(fs:List Fn8)(k:ByteArray):fFind (f::fs) k=if f.nm=k then some (f.b,f.s,f.params.length) else fFind fs k:=by
 unfold fFind
 rw[List.find?_cons]
 by_cases h:f.nm=k
 ·rw[decide_eq_true h,if_pos h];rfl
 ·rw[decide_eq_false h,if_neg h]
theorem ckGs_ev:∀ (gs:List Gb) (i:Nat) (E:Nev) (n:Int),(ckGs gs i E n).1.1=0→(∀ k,(ckGs gs i E n).2.1.v k=(vOf gs k).or (E.v k))∧(ckGs gs i E n).2.1.f=E.f∧∀ g∈gs,E.v g.nm=none∧E.f g.nm=none:=by
 intro gs
 induction gs with
 | nil=>intro i E n _;rw[ckGs];exact⟨fun k=>rfl,rfl,fun g hg=>by simp at hg⟩
 | cons g gs ih =>
  intro i E n h
  rw[ckGs_cons] at h ⊢
  split at h
  ·rename_i h1;exact absurd h h1
  rename_i h1
  rw[if_neg h1]
  have ht:=taken_no (adV_taken (by simpa using h1))
  obtain⟨q1,q2,q3⟩:=ih _ _ _ h
  have hev:∀ k,(E.addV g).v k=if k=g.nm then some (g.b,g.s,decide (0<g.size)) else E.v k:=fun k=>rfl
  refine⟨fun k=>?_,q2,fun g' hg'=>?_⟩
  ·rw[q1 k,vOf_cons,hev]
   by_cases hk:g.nm=k
   ·subst hk
    rw[if_pos rfl,if_pos rfl,vOf_none (fun g' hg' e=>by have:=(q3 g' hg').1;rw[e,hev,if_pos rfl] at this;cases this)]
    rfl
   ·rw[if_neg (Ne.symm hk),if_neg hk]
  ·rcases List.mem_cons.1 hg' with rfl|hg'
   ·exact ht
   ·have h5:=q3 g' hg'
    have hne:g'.nm≠g.nm:=fun e=>by have:=h5.1;rw[e,hev,if_pos rfl] at this;cases this
    exact⟨by have:=h5.1;rw[hev,if_neg hne] at this;exact this,h5.2⟩
theorem ckNs_ev:∀ (fs:List Fn8) (i:Nat) (E:Nev),(ckNs fs i E).1.1=0→(∀ k,(ckNs fs i E).2.f k=(fFind fs k).or (E.f k))∧(ckNs fs i E).2.v=E.v∧∀ f∈fs,E.v f.nm=none∧E.f f.nm=none:=by
 intro fs
 induction fs with
 | nil=>intro i E _;rw[ckNs];exact⟨fun k=>rfl,rfl,fun g hg=>by simp at hg⟩
 | cons f fs ih =>
  intro i E h
  rw[ckNs_cons] at h ⊢
  split at h
  ·cases h
  rename_i h1
  rw[if_neg h1]
  have ht:=taken_no (show E.taken f.nm=false by simpa using h1)
  obtain⟨q1,q2,q3⟩:=ih _ _ h
  have hev:∀ k,(E.addF f).f k=if k=f.nm then some (f.b,f.s,f.params.length) else E.f k:=fun k=>rfl
  refine⟨fun k=>?_,q2,fun g' hg'=>?_⟩
  ·rw[q1 k,fFind_cons,hev]
   by_cases hk:f.nm=k
   ·subst hk
    have:fFind fs f.nm=none:=by
     unfold fFind
     rw[List.find?_eq_none.2 (fun g' hg'=>by
      have h5:=(q3 g' hg').2
      have:g'.nm≠f.nm:=fun e=>by rw[e,hev,if_pos rfl] at h5;cases h5
      simpa using this)]
     rfl
    rw[if_pos rfl,if_pos rfl,this]
    rfl
   ·rw[if_neg (Ne.symm hk),if_neg hk]
  ·rcases List.mem_cons.1 hg' with rfl|hg'
   ·exact ht
   ·have h5:=q3 g' hg'
    have hne:g'.nm≠f.nm:=fun e=>by have:=h5.2;rw[e,hev,if_pos rfl] at this;cases this
    exact⟨h5.1,by have:=h5.2;rw[hev,if_neg hne] at this;exact this⟩
theorem evP_of {p:Pg}(hg:PgG p)(h1:(ckGs p.globals 0 ev0 0).1.1=0)(h2:(ckNs p.funcs p.globals.length (ckGs p.globals 0 ev0 0).2.1).1.1=0):EvP p (ckNs p.funcs p.globals.length (ckGs p.globals 0 ev0 0).2.1).2:=by
 obtain⟨a1,a2,a3⟩:=ckGs_ev _ _ _ _ h1
 obtain⟨b1,b2,b3⟩:=ckNs_ev _ _ _ h2
 refine⟨fun k=>?_,fun k=>?_,fun f hf=>(hg.f f hf).pl,fun g h=>(hg.g g h).b,fun f hf=>?_⟩
 ·rw[b2,a1 k]
  show (vOf p.globals k).or none=_
  cases vOf p.globals k <;> rfl
 ·rw[b1 k,a2]
  have hne:∀ f∈p.funcs,f.nm≠nPut∧f.nm≠nGet:=fun f hf=>by
   have h5:=(b3 f hf).2
   rw[a2] at h5
   have h5:(if f.nm=nGet then some ((16:Int),true,0) else if f.nm=nPut then some (0,false,1) else none)=none:=h5
   constructor
   ·intro e
    rw[e] at h5
    split at h5 <;> simp at h5
   ·intro e
    rw[if_pos e] at h5
    cases h5
  have hnf:∀ k,(k=nPut∨k=nGet)→fFind p.funcs k=none:=fun k hk=>by
   unfold fFind
   rw[List.find?_eq_none.2 (fun f hf=>by
    have:=hne f hf
    rcases hk with rfl|rfl
    ·simpa using this.1
    ·simpa using this.2)]
   rfl
  show (fFind p.funcs k).or (if k=nGet then some (16,true,0) else if k=nPut then some (0,false,1) else none)=fOf p.funcs k
  unfold fOf
  by_cases k1:k=nPut
  ·rw[hnf k (.inl k1),if_pos k1,if_neg (by rw[k1];decide),if_pos k1];rfl
  ·by_cases k2:k=nGet
   ·have e9:(if k=nPut then some ((0:Int),false,1) else if k=nGet then some (16,true,0) else fFind p.funcs k)=some (16,true,0):=by rw[if_neg k1,if_pos k2]
    rw[hnf k (.inr k2),if_pos k2]
    exact e9.symm
   ·have e9:(if k=nPut then some ((0:Int),false,1) else if k=nGet then some (16,true,0) else fFind p.funcs k)=fFind p.funcs k:=by rw[if_neg k1,if_neg k2]
    rw[if_neg k2,if_neg k1]
    refine Eq.trans ?_ e9.symm
    show (fFind p.funcs k).or none=fFind p.funcs k
    cases fFind p.funcs k <;> rfl
 ·rcases (hg.f f hf).res with h|h
  ·exact .inl (isWB_of h)
  ·exact .inr h
def Tkn (T:List ByteArray)(E:Nev):Prop:=∀ k,hasB T k=E.taken k
theorem tkn0:Tkn [nPut,nGet] ev0:=by
 intro k
 show (decide (nPut=k) || (decide (nGet=k) || false))=((none:Option (Int × Bool × Bool)).isSome || (if k=nGet then some ((16:Int),true,0) else if k=nPut then some (0,false,1) else none).isSome)
 by_cases k1:k=nGet
 ·subst k1;simp
 ·rw[if_neg k1]
  by_cases k2:k=nPut
  ·subst k2;simp
  ·rw[if_neg k2,decide_eq_false (Ne.symm k1),decide_eq_false (Ne.symm k2)];rfl
theorem Tkn.addV {T:List ByteArray}{E:Nev}(h:Tkn T E)(g:Gb):Tkn (T++[g.nm]) (E.addV g):=by
 intro k
 rw[hasB_app,h k]
 show _=((if k=g.nm then some (g.b,g.s,decide (0<g.size)) else E.v k).isSome || (E.f k).isSome)
 unfold Nev.taken
 by_cases hk:k=g.nm
 ·subst hk;simp
 ·rw[if_neg hk,decide_eq_false (Ne.symm hk),Bool.or_false]
theorem Tkn.addF {T:List ByteArray}{E:Nev}(h:Tkn T E)(f:Fn8):Tkn (T++[f.nm]) (E.addF f):=by
 intro k
 rw[hasB_app,h k]
 show _=((E.v k).isSome || (if k=f.nm then some (f.b,f.s,f.params.length) else E.f k).isSome)
 unfold Nev.taken
 by_cases hk:k=f.nm
 ·subst hk;simp
 ·rw[if_neg hk,decide_eq_false (Ne.symm hk),Bool.or_false]
theorem main_add {E:Nev}{f:Fn8}(h:E.taken f.nm=false):mainB (E.addF f)=(mainB E || (decide (f.nm=nMain)&&decide (f.params.length=0))):=by
 have hf:=(taken_no h).2
 unfold mainB
 show (match (if nMain=f.nm then some (f.b,f.s,f.params.length) else E.f nMain) with
  | some (_,_,m)=>decide (m=0)
  | none=>false)=_
 by_cases hk:nMain=f.nm
 ·rw[if_pos hk,hk,hf];simp
 ·rw[if_neg hk,decide_eq_false (Ne.symm hk),Bool.false_and,Bool.or_false]
  cases E.f nMain <;> rfl
open Go.RowKit
theorem abs_mul_lt {X Y:Int}(hx:X.natAbs≤18446744073709551615)(hy:Y.natAbs≤18446744073709551615):(X*Y).natAbs<4294967296 ^ 6:=by
 rw[Int.natAbs_mul]
 have:=Nat.mul_le_mul hx hy
 have b:(18446744073709551615:Nat)*18446744073709551615<4294967296 ^ 6:=by decide
 omega
theorem abs_div_lt {X Y:Int}(hx:X.natAbs≤18446744073709551615):(X.tdiv Y).natAbs<4294967296 ^ 6:=by
 rw[Int.natAbs_tdiv]
 have h2:X.natAbs / Y.natAbs≤X.natAbs:=Nat.div_le_self X.natAbs Y.natAbs
 have b:(18446744073709551615:Nat)<4294967296 ^ 6:=by decide
 exact Nat.lt_of_le_of_lt h2 (by omega)
theorem abs_mod_lt {X Y:Int}(hx:X.natAbs≤18446744073709551615):(X.tmod Y).natAbs<4294967296 ^ 6:=by
 rw[Int.natAbs_tmod]
 have h2:X.natAbs % Y.natAbs≤X.natAbs:=Nat.mod_le X.natAbs Y.natAbs
 have b:(18446744073709551615:Nat)<4294967296 ^ 6:=by decide
 exact Nat.lt_of_le_of_lt h2 (by omega)
theorem do_add (a b n:Int)(s:Bool)(w:World)(h:IsW n)(ha:U a)(hb:U b) :
  Calls Tryz.prog 69 #[.int .u8 43,.int .u64 a,.int .u64 b,.int .i64 n,.bool s] w fun e w'=>e=.returned (.tuple #[.int .u64 (cut n ((mn s n a)+(mn s n b))),.int .i64 0])∧Below w.heap.size w w':=by
 have MA:=fun w=>qaq a n s w h ha
 have MB:=fun w=>qaq b n s w h hb
 have xa:=qai h s a
 have xb:=qai h s b
 generalize mn s n a=X at *
 generalize mn s n b=Y at *
 have b4:(18446744073709551616:Nat)<4294967296 ^ 4:=by decide
 have b6:(18446744073709551616:Nat)*18446744073709551616<4294967296 ^ 6:=by decide
 have b7:(4294967296:Nat) ^ 4<4294967296 ^ 7:=by decide
 have b8:(4294967296:Nat) ^ 4<4294967296 ^ 8:=by decide
 go_enter Tryz.func69,Tryz.ntmps69
 go_wp2_with fail
 refine (qau n h _).mono ?_
 rintro e w1 ⟨rfl,k1⟩
 have K1:=zX k1
 clear k1
 go_wp2_with fail
 refine (MA _).mono ?_
 rintro e w2 ⟨p,rfl,hp,k2,B2⟩
 have K2:=zX ((uX K1).trans (k2.mono (uX K1).size))
 have HB2:=zX B2
 have hp2:=B2.lt
 clear k2 B2
 go_wp2_with fail
 refine (MB _).mono ?_
 rintro e w3 ⟨q,rfl,hq,k3,B3⟩
 have K3:=zX ((uX K2).trans (k3.mono (uX K2).size))
 have X3:=zX (((uX HB2).step k3).step (qaa w3 (.cells #[.bool false,.slice none 0 0] 127)))
 have Y3:=zX (B3.step (qaa w3 (.cells #[.bool false,.slice none 0 0] 127)))
 have Z3:=zX (Big.new w3)
 have hq2:=B3.lt
 have s3:=k3.size
 have K4:=zX ((uX K3).trans ((qaa w3 (.cells #[.bool false,.slice none 0 0] 127)).mono (uX K3).size))
 have hs4:(w3.alloc (.cells #[.bool false,.slice none 0 0] 127)).heap.size=w3.heap.size+1:=by simp
 clear k3 B3
 go_wp2_with fail
 generalize w3.alloc (.cells #[.bool false,.slice none 0 0] 127)=w4 at *
 have k03:w.heap.size≤w3.heap.size:=(uX K3).size
 refine (add_big w3.heap.size p q X Y w4 (uX Z3).int (uX X3) (uX Y3) (by omega) (by omega) (by omega)).mono ?_
 rintro e w5 ⟨rfl,k5,B5⟩
 have K5:=zX ((uX K4).trans (k5.below k03 (uX K4).size))
 have HB5:=zX B5
 clear k5 B5
 go_wp2_with fail
 refine (fitW w3.heap.size (X+Y) n _ (uX HB5) h (by omega)).mono ?_
 rintro e w9 ⟨rfl,k9⟩
 have K9:=zX ((uX K5).trans (k9.mono (uX K5).size))
 clear k9
 go_wp2_with fail
 go_ret2
 exact⟨rfl,uX K9⟩
theorem do_sub (a b n:Int)(s:Bool)(w:World)(h:IsW n)(ha:U a)(hb:U b) :
  Calls Tryz.prog 69 #[.int .u8 45,.int .u64 a,.int .u64 b,.int .i64 n,.bool s] w fun e w'=>e=.returned (.tuple #[.int .u64 (cut n ((mn s n a) - (mn s n b))),.int .i64 0])∧Below w.heap.size w w':=by
 have MA:=fun w=>qaq a n s w h ha
 have MB:=fun w=>qaq b n s w h hb
 have xa:=qai h s a
 have xb:=qai h s b
 generalize mn s n a=X at *
 generalize mn s n b=Y at *
 have b4:(18446744073709551616:Nat)<4294967296 ^ 4:=by decide
 have b6:(18446744073709551616:Nat)*18446744073709551616<4294967296 ^ 6:=by decide
 have b7:(4294967296:Nat) ^ 4<4294967296 ^ 7:=by decide
 have b8:(4294967296:Nat) ^ 4<4294967296 ^ 8:=by decide
 go_enter Tryz.func69,Tryz.ntmps69
 go_wp2_with fail
 refine (qau n h _).mono ?_
 rintro e w1 ⟨rfl,k1⟩
 have K1:=zX k1
 clear k1
 go_wp2_with fail
 refine (MA _).mono ?_
 rintro e w2 ⟨p,rfl,hp,k2,B2⟩
 have K2:=zX ((uX K1).trans (k2.mono (uX K1).size))
 have HB2:=zX B2
 have hp2:=B2.lt
 clear k2 B2
 go_wp2_with fail
 refine (MB _).mono ?_
 rintro e w3 ⟨q,rfl,hq,k3,B3⟩
 have K3:=zX ((uX K2).trans (k3.mono (uX K2).size))
 have X3:=zX (((uX HB2).step k3).step (qaa w3 (.cells #[.bool false,.slice none 0 0] 127)))
 have Y3:=zX (B3.step (qaa w3 (.cells #[.bool false,.slice none 0 0] 127)))
 have Z3:=zX (Big.new w3)
 have hq2:=B3.lt
 have s3:=k3.size
 have K4:=zX ((uX K3).trans ((qaa w3 (.cells #[.bool false,.slice none 0 0] 127)).mono (uX K3).size))
 have hs4:(w3.alloc (.cells #[.bool false,.slice none 0 0] 127)).heap.size=w3.heap.size+1:=by simp
 clear k3 B3
 go_wp2_with fail
 generalize w3.alloc (.cells #[.bool false,.slice none 0 0] 127)=w4 at *
 have k03:w.heap.size≤w3.heap.size:=(uX K3).size
 refine (sub_big w3.heap.size p q X Y w4 (uX Z3).int (uX X3) (uX Y3) (by omega) (by omega) (by omega)).mono ?_
 rintro e w5 ⟨rfl,k5,B5⟩
 have K5:=zX ((uX K4).trans (k5.below k03 (uX K4).size))
 have HB5:=zX B5
 clear k5 B5
 go_wp2_with fail
 refine (fitW w3.heap.size (X - Y) n _ (uX HB5) h (by omega)).mono ?_
 rintro e w9 ⟨rfl,k9⟩
 have K9:=zX ((uX K5).trans (k9.mono (uX K5).size))
 clear k9
 go_wp2_with fail
 go_ret2
 exact⟨rfl,uX K9⟩
theorem do_mul (a b n:Int)(s:Bool)(w:World)(h:IsW n)(ha:U a)(hb:U b) :
  Calls Tryz.prog 69 #[.int .u8 42,.int .u64 a,.int .u64 b,.int .i64 n,.bool s] w fun e w'=>e=.returned (.tuple #[.int .u64 (cut n ((mn s n a)*(mn s n b))),.int .i64 0])∧Below w.heap.size w w':=by
 have MA:=fun w=>qaq a n s w h ha
 have MB:=fun w=>qaq b n s w h hb
 have xa:=qai h s a
 have xb:=qai h s b
 generalize mn s n a=X at *
 generalize mn s n b=Y at *
 have b4:(18446744073709551616:Nat)<4294967296 ^ 4:=by decide
 have b6:(18446744073709551616:Nat)*18446744073709551616<4294967296 ^ 6:=by decide
 have b7:(4294967296:Nat) ^ 4<4294967296 ^ 7:=by decide
 have b8:(4294967296:Nat) ^ 4<4294967296 ^ 8:=by decide
 go_enter Tryz.func69,Tryz.ntmps69
 go_wp2_with fail
 refine (qau n h _).mono ?_
 rintro e w1 ⟨rfl,k1⟩
 have K1:=zX k1
 clear k1
 go_wp2_with fail
 refine (MA _).mono ?_
 rintro e w2 ⟨p,rfl,hp,k2,B2⟩
 have K2:=zX ((uX K1).trans (k2.mono (uX K1).size))
 have HB2:=zX B2
 have hp2:=B2.lt
 clear k2 B2
 go_wp2_with fail
 refine (MB _).mono ?_
 rintro e w3 ⟨q,rfl,hq,k3,B3⟩
 have K3:=zX ((uX K2).trans (k3.mono (uX K2).size))
 have X3:=zX (((uX HB2).step k3).step (qaa w3 (.cells #[.bool false,.slice none 0 0] 127)))
 have Y3:=zX (B3.step (qaa w3 (.cells #[.bool false,.slice none 0 0] 127)))
 have Z3:=zX (Big.new w3)
 have hq2:=B3.lt
 have s3:=k3.size
 have K4:=zX ((uX K3).trans ((qaa w3 (.cells #[.bool false,.slice none 0 0] 127)).mono (uX K3).size))
 have hs4:(w3.alloc (.cells #[.bool false,.slice none 0 0] 127)).heap.size=w3.heap.size+1:=by simp
 clear k3 B3
 go_wp2_with fail
 generalize w3.alloc (.cells #[.bool false,.slice none 0 0] 127)=w4 at *
 have k03:w.heap.size≤w3.heap.size:=(uX K3).size
 refine (mul_big w3.heap.size p q X Y w4 (uX Z3).int (uX X3) (uX Y3) (by omega) (by omega) (by omega) (by omega)).mono ?_
 rintro e w5 ⟨rfl,k5,B5⟩
 have K5:=zX ((uX K4).trans (k5.below k03 (uX K4).size))
 have HB5:=zX B5
 clear k5 B5
 go_wp2_with fail
 refine (fitW w3.heap.size (X*Y) n _ (uX HB5) h (by exact abs_mul_lt xa xb)).mono ?_
 rintro e w9 ⟨rfl,k9⟩
 have K9:=zX ((uX K5).trans (k9.mono (uX K5).size))
 clear k9
 go_wp2_with fail
 go_ret2
 exact⟨rfl,uX K9⟩
theorem do_div (a b n:Int)(s:Bool)(w:World)(h:IsW n)(ha:U a)(hb:U b)(hne:mn s n b≠0) :
  Calls Tryz.prog 69 #[.int .u8 47,.int .u64 a,.int .u64 b,.int .i64 n,.bool s] w fun e w'=>e=.returned (.tuple #[.int .u64 (cut n ((mn s n a).tdiv (mn s n b))),.int .i64 0])∧Below w.heap.size w w':=by
 have MA:=fun w=>qaq a n s w h ha
 have MB:=fun w=>qaq b n s w h hb
 have xa:=qai h s a
 have xb:=qai h s b
 generalize mn s n a=X at *
 generalize mn s n b=Y at *
 have b4:(18446744073709551616:Nat)<4294967296 ^ 4:=by decide
 have b6:(18446744073709551616:Nat)*18446744073709551616<4294967296 ^ 6:=by decide
 have b7:(4294967296:Nat) ^ 4<4294967296 ^ 7:=by decide
 have b8:(4294967296:Nat) ^ 4<4294967296 ^ 8:=by decide
 go_enter Tryz.func69,Tryz.ntmps69
 go_wp2_with fail
 refine (qau n h _).mono ?_
 rintro e w1 ⟨rfl,k1⟩
 have K1:=zX k1
 clear k1
 go_wp2_with fail
 refine (MA _).mono ?_
 rintro e w2 ⟨p,rfl,hp,k2,B2⟩
 have K2:=zX ((uX K1).trans (k2.mono (uX K1).size))
 have HB2:=zX B2
 have hp2:=B2.lt
 clear k2 B2
 go_wp2_with fail
 refine (MB _).mono ?_
 rintro e w3 ⟨q,rfl,hq,k3,B3⟩
 have K3:=zX ((uX K2).trans (k3.mono (uX K2).size))
 have X3:=zX (((uX HB2).step k3).step (qaa w3 (.cells #[.bool false,.slice none 0 0] 127)))
 have Y3:=zX (B3.step (qaa w3 (.cells #[.bool false,.slice none 0 0] 127)))
 have Z3:=zX (Big.new w3)
 have hq2:=B3.lt
 have s3:=k3.size
 have K4:=zX ((uX K3).trans ((qaa w3 (.cells #[.bool false,.slice none 0 0] 127)).mono (uX K3).size))
 have hs4:(w3.alloc (.cells #[.bool false,.slice none 0 0] 127)).heap.size=w3.heap.size+1:=by simp
 clear k3 B3
 go_wp2_with fail
 generalize w3.alloc (.cells #[.bool false,.slice none 0 0] 127)=w4 at *
 have k03:w.heap.size≤w3.heap.size:=(uX K3).size
 have SG:=sign_any q Y w4 (uX Y3) (by omega)
 have hsg:(Y.sign==0)=false:=zBq (by rw[Ne,Int.sign_eq_zero_iff_zero];exact hne)
 generalize Y.sign=sg at *
 refine SG.mono ?_
 rintro e w5 ⟨rfl,rfl⟩
 clear SG
 have R5:=Big.new w5
 rw[hs4] at R5
 replace R5:=zX R5
 have X5:=zX ((uX X3).step (qaa w5 (.cells #[.bool false,.slice none 0 0] 127)))
 have Y5:=zX ((uX Y3).step (qaa w5 (.cells #[.bool false,.slice none 0 0] 127)))
 have Z5:=zX ((uX Z3).step (qaa w5 (.cells #[.bool false,.slice none 0 0] 127)))
 have K5:=zX ((uX K4).trans ((qaa w5 (.cells #[.bool false,.slice none 0 0] 127)).mono (uX K4).size))
 have hs5:(w5.alloc (.cells #[.bool false,.slice none 0 0] 127)).heap.size=w5.heap.size+1:=by simp
 go_wp2_with fail
 generalize w5.alloc (.cells #[.bool false,.slice none 0 0] 127)=w6 at *
 have b64:(18446744073709551615:Int)<4294967296 ^ 8:=by decide
 refine (quorem_any w3.heap.size p q (w3.heap.size+1) X Y w6 (uX Z5).int (uX R5).int (uX X5) (uX Y5) (by omega) (qbg (by omega) (by omega) (by omega) (.inr (.inl (by omega)))) (by omega) (by omega) hne).mono ?_
 rintro e w7 ⟨rfl,k7,BQ,BR⟩
 have K7:=zX ((uX K5).trans (k7.below k03 (by omega) (uX K5).size))
 have HQ:=zX BQ
 have HR:=zX BR
 clear k7 BQ BR
 go_wp2_with fail
 refine (fitW w3.heap.size (X.tdiv Y) n _ (uX HQ) h (by exact abs_div_lt xa)).mono ?_
 rintro e w9 ⟨rfl,k9⟩
 have K9:=zX ((uX K7).trans (k9.mono (uX K7).size))
 clear k9
 go_wp2_with fail
 go_ret2
 exact⟨rfl,uX K9⟩
theorem do_rem (a b n:Int)(s:Bool)(w:World)(h:IsW n)(ha:U a)(hb:U b)(hne:mn s n b≠0) :
  Calls Tryz.prog 69 #[.int .u8 37,.int .u64 a,.int .u64 b,.int .i64 n,.bool s] w fun e w'=>e=.returned (.tuple #[.int .u64 (cut n ((mn s n a).tmod (mn s n b))),.int .i64 0])∧Below w.heap.size w w':=by
 have MA:=fun w=>qaq a n s w h ha
 have MB:=fun w=>qaq b n s w h hb
 have xa:=qai h s a
 have xb:=qai h s b
 generalize mn s n a=X at *
 generalize mn s n b=Y at *
 have b4:(18446744073709551616:Nat)<4294967296 ^ 4:=by decide
 have b6:(18446744073709551616:Nat)*18446744073709551616<4294967296 ^ 6:=by decide
 have b7:(4294967296:Nat) ^ 4<4294967296 ^ 7:=by decide
 have b8:(4294967296:Nat) ^ 4<4294967296 ^ 8:=by decide
 go_enter Tryz.func69,Tryz.ntmps69
 go_wp2_with fail
 refine (qau n h _).mono ?_
 rintro e w1 ⟨rfl,k1⟩
 have K1:=zX k1
 clear k1
 go_wp2_with fail
 refine (MA _).mono ?_
 rintro e w2 ⟨p,rfl,hp,k2,B2⟩
 have K2:=zX ((uX K1).trans (k2.mono (uX K1).size))
 have HB2:=zX B2
 have hp2:=B2.lt
 clear k2 B2
 go_wp2_with fail
 refine (MB _).mono ?_
 rintro e w3 ⟨q,rfl,hq,k3,B3⟩
 have K3:=zX ((uX K2).trans (k3.mono (uX K2).size))
 have X3:=zX (((uX HB2).step k3).step (qaa w3 (.cells #[.bool false,.slice none 0 0] 127)))
 have Y3:=zX (B3.step (qaa w3 (.cells #[.bool false,.slice none 0 0] 127)))
 have Z3:=zX (Big.new w3)
 have hq2:=B3.lt
 have s3:=k3.size
 have K4:=zX ((uX K3).trans ((qaa w3 (.cells #[.bool false,.slice none 0 0] 127)).mono (uX K3).size))
 have hs4:(w3.alloc (.cells #[.bool false,.slice none 0 0] 127)).heap.size=w3.heap.size+1:=by simp
 clear k3 B3
 go_wp2_with fail
 generalize w3.alloc (.cells #[.bool false,.slice none 0 0] 127)=w4 at *
 have k03:w.heap.size≤w3.heap.size:=(uX K3).size
 have SG:=sign_any q Y w4 (uX Y3) (by omega)
 have hsg:(Y.sign==0)=false:=zBq (by rw[Ne,Int.sign_eq_zero_iff_zero];exact hne)
 generalize Y.sign=sg at *
 refine SG.mono ?_
 rintro e w5 ⟨rfl,rfl⟩
 clear SG
 have R5:=Big.new w5
 rw[hs4] at R5
 replace R5:=zX R5
 have X5:=zX ((uX X3).step (qaa w5 (.cells #[.bool false,.slice none 0 0] 127)))
 have Y5:=zX ((uX Y3).step (qaa w5 (.cells #[.bool false,.slice none 0 0] 127)))
 have Z5:=zX ((uX Z3).step (qaa w5 (.cells #[.bool false,.slice none 0 0] 127)))
 have K5:=zX ((uX K4).trans ((qaa w5 (.cells #[.bool false,.slice none 0 0] 127)).mono (uX K4).size))
 have hs5:(w5.alloc (.cells #[.bool false,.slice none 0 0] 127)).heap.size=w5.heap.size+1:=by simp
 go_wp2_with fail
 generalize w5.alloc (.cells #[.bool false,.slice none 0 0] 127)=w6 at *
 have b64:(18446744073709551615:Int)<4294967296 ^ 8:=by decide
 refine (quorem_any w3.heap.size p q (w3.heap.size+1) X Y w6 (uX Z5).int (uX R5).int (uX X5) (uX Y5) (by omega) (qbg (by omega) (by omega) (by omega) (.inr (.inl (by omega)))) (by omega) (by omega) hne).mono ?_
 rintro e w7 ⟨rfl,k7,BQ,BR⟩
 have K7:=zX ((uX K5).trans (k7.below k03 (by omega) (uX K5).size))
 have HQ:=zX BQ
 have HR:=zX BR
 clear k7 BQ BR
 go_wp2_with fail
 refine (fitW (w3.heap.size+1) (X.tmod Y) n _ (uX HR) h (by exact abs_mod_lt xa)).mono ?_
 rintro e w9 ⟨rfl,k9⟩
 have K9:=zX ((uX K7).trans (k9.mono (uX K7).size))
 clear k9
 go_wp2_with fail
 go_ret2
 exact⟨rfl,uX K9⟩
theorem do_div0 (a b n:Int)(s:Bool)(w:World)(h:IsW n)(ha:U a)(hb:U b)(hze:mn s n b=0) :
  Calls Tryz.prog 69 #[.int .u8 47,.int .u64 a,.int .u64 b,.int .i64 n,.bool s] w fun e w'=>e=.returned (.tuple #[.int .u64 (0),.int .i64 10])∧Below w.heap.size w w':=by
 have MA:=fun w=>qaq a n s w h ha
 have MB:=fun w=>qaq b n s w h hb
 have xa:=qai h s a
 have xb:=qai h s b
 generalize mn s n a=X at *
 generalize mn s n b=Y at *
 have b4:(18446744073709551616:Nat)<4294967296 ^ 4:=by decide
 have b6:(18446744073709551616:Nat)*18446744073709551616<4294967296 ^ 6:=by decide
 have b7:(4294967296:Nat) ^ 4<4294967296 ^ 7:=by decide
 have b8:(4294967296:Nat) ^ 4<4294967296 ^ 8:=by decide
 go_enter Tryz.func69,Tryz.ntmps69
 go_wp2_with fail
 refine (qau n h _).mono ?_
 rintro e w1 ⟨rfl,k1⟩
 have K1:=zX k1
 clear k1
 go_wp2_with fail
 refine (MA _).mono ?_
 rintro e w2 ⟨p,rfl,hp,k2,B2⟩
 have K2:=zX ((uX K1).trans (k2.mono (uX K1).size))
 have HB2:=zX B2
 have hp2:=B2.lt
 clear k2 B2
 go_wp2_with fail
 refine (MB _).mono ?_
 rintro e w3 ⟨q,rfl,hq,k3,B3⟩
 have K3:=zX ((uX K2).trans (k3.mono (uX K2).size))
 have X3:=zX (((uX HB2).step k3).step (qaa w3 (.cells #[.bool false,.slice none 0 0] 127)))
 have Y3:=zX (B3.step (qaa w3 (.cells #[.bool false,.slice none 0 0] 127)))
 have Z3:=zX (Big.new w3)
 have hq2:=B3.lt
 have s3:=k3.size
 have K4:=zX ((uX K3).trans ((qaa w3 (.cells #[.bool false,.slice none 0 0] 127)).mono (uX K3).size))
 have hs4:(w3.alloc (.cells #[.bool false,.slice none 0 0] 127)).heap.size=w3.heap.size+1:=by simp
 clear k3 B3
 go_wp2_with fail
 generalize w3.alloc (.cells #[.bool false,.slice none 0 0] 127)=w4 at *
 have SG:=sign_any q Y w4 (uX Y3) (by omega)
 rw[hze] at SG
 refine SG.mono ?_
 rintro e w5 ⟨rfl,rfl⟩
 clear SG
 go_wp2_with fail
 go_ret2
 exact⟨rfl,uX K4⟩
theorem do_rem0 (a b n:Int)(s:Bool)(w:World)(h:IsW n)(ha:U a)(hb:U b)(hze:mn s n b=0) :
  Calls Tryz.prog 69 #[.int .u8 37,.int .u64 a,.int .u64 b,.int .i64 n,.bool s] w fun e w'=>e=.returned (.tuple #[.int .u64 (0),.int .i64 10])∧Below w.heap.size w w':=by
 have MA:=fun w=>qaq a n s w h ha
 have MB:=fun w=>qaq b n s w h hb
 have xa:=qai h s a
 have xb:=qai h s b
 generalize mn s n a=X at *
 generalize mn s n b=Y at *
 have b4:(18446744073709551616:Nat)<4294967296 ^ 4:=by decide
 have b6:(18446744073709551616:Nat)*18446744073709551616<4294967296 ^ 6:=by decide
 have b7:(4294967296:Nat) ^ 4<4294967296 ^ 7:=by decide
 have b8:(4294967296:Nat) ^ 4<4294967296 ^ 8:=by decide
 go_enter Tryz.func69,Tryz.ntmps69
 go_wp2_with fail
 refine (qau n h _).mono ?_
 rintro e w1 ⟨rfl,k1⟩
 have K1:=zX k1
 clear k1
 go_wp2_with fail
 refine (MA _).mono ?_
 rintro e w2 ⟨p,rfl,hp,k2,B2⟩
 have K2:=zX ((uX K1).trans (k2.mono (uX K1).size))
 have HB2:=zX B2
 have hp2:=B2.lt
 clear k2 B2
 go_wp2_with fail
 refine (MB _).mono ?_
 rintro e w3 ⟨q,rfl,hq,k3,B3⟩
 have K3:=zX ((uX K2).trans (k3.mono (uX K2).size))
 have X3:=zX (((uX HB2).step k3).step (qaa w3 (.cells #[.bool false,.slice none 0 0] 127)))
 have Y3:=zX (B3.step (qaa w3 (.cells #[.bool false,.slice none 0 0] 127)))
 have Z3:=zX (Big.new w3)
 have hq2:=B3.lt
 have s3:=k3.size
 have K4:=zX ((uX K3).trans ((qaa w3 (.cells #[.bool false,.slice none 0 0] 127)).mono (uX K3).size))
 have hs4:(w3.alloc (.cells #[.bool false,.slice none 0 0] 127)).heap.size=w3.heap.size+1:=by simp
 clear k3 B3
 go_wp2_with fail
 generalize w3.alloc (.cells #[.bool false,.slice none 0 0] 127)=w4 at *
 have SG:=sign_any q Y w4 (uX Y3) (by omega)
 rw[hze] at SG
 refine SG.mono ?_
 rintro e w5 ⟨rfl,rfl⟩
 clear SG
 go_wp2_with fail
 go_ret2
 exact⟨rfl,uX K4⟩
end Go.Proofs.YtjpnnmkefaodoaaGreat
