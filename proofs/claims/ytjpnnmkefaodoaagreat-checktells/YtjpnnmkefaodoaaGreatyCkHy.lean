/-
  CkH, CkI, CkJ, CkK, LwD.
-/
import Derived.Test.YtjpnnmkefaodoaaGreatyCkGy
import Derived.Laws.AppendOwnNone
import Derived.Defers
import Derived.Deep.MidRow
import Derived.Great.Ranges
set_option maxHeartbeats 8000000
set_option maxRecDepth 100000
namespace Go.Proofs.YtjpnnmkefaodoaaGreat
open Go.RowKit Go.Maps
set_option linter.unusedSimpArgs false
set_option linter.unusedVariables false
theorem qaj {w:World}{B e s n:Nat}{v:Value}{cs:List Value}(h:w.ownsRow B e s v n cs):∃ ao cap,v=.slice ao n cap:=by
 rcases h.2 with ⟨rfl,hn⟩|⟨g,cap,cur,rfl,_⟩
 ·exact⟨none,0,by rw[hn]⟩
 ·exact⟨_,_,rfl⟩
theorem qbo {w:World}{B e s n:Nat}{v:Value}{cs:List Value}(h:w.ownsRow B e s v n cs)(c:Nat)(hc:v.ownBlock=some c):B≤c∧∃ cur fr,w.heap[c]?=some (.cells cur e fr):=by
 rcases h.2 with ⟨rfl,hn⟩|⟨g,cap,cur,rfl,hb,hg,_⟩
 ·cases hc
 ·injection hc with hc
  subst hc
  exact⟨hb,cur,_,hg⟩
structure Dz (B:Nat)(w W:World)(sb vb fb lb:Nat)(wd:Int)(E:Nev)(res:Int × Bool)(lp:Nat)(b:Int)(s:Bool)(v:Value)(n:Nat)(op:List ByteArray)(fr:Int)(m:ByteArray→Option (Int × Bool × Bool)):Prop where
 wk:Wd9 B sb lb w W
 bt:BoxC W w.heap.size #[.int .i64 b,.bool s] 34
 bx:BoxC W sb #[.map (some vb),.map (some fb),.int .i64 wd,.map (some lb),v,.int .i64 fr,.int .i64 (lp:Int),.int .i64 res.1,.bool res.2] 87
 ow:W.ownsRow B 9 1 v op.length (op.map .string)
 mv:Mv W lb n (fun k=>(m k).map encV)
 nm:Nm W vb fb E
 hs:B≤sb
 hl:B≤lb
 hv:vb<B
 hf:fb<B
 hB:B≤w.heap.size
 lts:sb<w.heap.size∧lb<w.heap.size
section
variable {B:Nat} {w W W':World} {sb vb fb lb:Nat} {wd:Int} {E:Nev} {res:Int × Bool} {lp:Nat} {b:Int} {s:Bool} {v:Value} {n:Nat} {op:List ByteArray} {fr:Int} {m:ByteArray→Option (Int × Bool × Bool)}
theorem Dz.step (h:Dz B w W sb vb fb lb wd E res lp b s v n op fr m)(k:Below W.heap.size W W'):Dz B w W' sb vb fb lb wd E res lp b s v n op fr m :=
 ⟨h.wk.trans (Wd9.of k (Nat.le_trans h.hB h.wk.wc.size)),h.bt.step k,h.bx.step k,qay h.ow k,h.mv.step k,h.nm.step k,h.hs,h.hl,h.hv,h.hf,h.hB,h.lts⟩
theorem Dz.slb (h:Dz B w W sb vb fb lb wd E res lp b s v n op fr m):sb≠lb:=by
 intro e
 obtain⟨es,c,h1⟩:=h.mv.at
 have:=h.bx.1
 rw[e,h1] at this
 cases this
theorem Dz.put {nm:ByteArray}(h:Dz B w W sb vb fb lb wd E res lp b s v n op fr m)(hm:Mv W' lb (n+1) (putV (fun k=>(m k).map encV) nm (encV (b,s,true))))(g:W.grownBy W' (some lb)):Dz B w W' sb vb fb lb wd E res lp b s v (n+1) op fr (fun j=>if j=nm then some (b,s,true) else m j):=by
 have hne:∀ c,c≠lb→some c≠some lb:=fun c hc e=>hc (by injection e)
 refine⟨h.wk.trans ⟨⟨g.os,g.tape,g.output,g.size,fun k hk=>g.block k (by have:=h.hB;have:=h.wk.wc.size;omega) (hne k (by have:=h.hl;omega))⟩,Wc.map g⟩,?_,?_,?_,?_,?_,h.hs,h.hl,h.hv,h.hf,h.hB,h.lts⟩
 ·exact⟨(g.block _ h.bt.lt (hne _ (by have:=h.lts.2;omega))).trans h.bt.1,h.bt.2⟩
 ·exact⟨(g.block _ h.bx.lt (hne _ h.slb)).trans h.bx.1,h.bx.2⟩
 ·refine⟨h.ow.1,?_⟩
  rcases h.ow.2 with h0|⟨c,cap,cur,e1,e2,e3,e4⟩
  ·exact .inl h0
  ·refine .inr ⟨c,cap,cur,e1,e2,?_,e4⟩
   rw[g.block c (Array.getElem?_eq_some_iff.1 e3).1 (hne c ?_)]
   ·exact e3
   ·intro e
    obtain⟨es,k,q⟩:=h.mv.at
    rw[e,q] at e3
    cases e3
 ·refine hm.congr fun k=>?_
  unfold putV
  by_cases e:k=nm
  ·rw[if_pos e,if_pos e];rfl
  ·rw[if_neg e,if_neg e]
 ·exact h.nm.blk fun k hk=>g.block k (by rcases hk with rfl|rfl;exact h.nm.lt.1;exact h.nm.lt.2) (hne k (by have:=h.hl;have:=h.hv;have:=h.hf;rcases hk with rfl|rfl <;> omega))
theorem Dz.app {v':Value}{nm:ByteArray}(h:Dz B w W sb vb fb lb wd E res lp b s v n op fr m)(ho:W'.ownsRow B 9 1 v' (op.length+1) (op.map .string++[.string nm]))(g:W.grownBy W' v.ownBlock) :
  Wd9 B sb lb w W'∧BoxC W' w.heap.size #[.int .i64 b,.bool s] 34∧BoxC W' sb #[.map (some vb),.map (some fb),.int .i64 wd,.map (some lb),v,.int .i64 fr,.int .i64 (lp:Int),.int .i64 res.1,.bool res.2] 87∧W'.ownsRow B 9 1 v' (op++[nm]).length ((op++[nm]).map .string)∧Mv W' lb n (fun k=>(m k).map encV)∧Nm W' vb fb E:=by
 have key:∀ (c:Nat) (o:Obj),W.heap[c]?=some o→(∀ cs fr,o≠.cells cs 9 fr)→W'.heap[c]?=W.heap[c]?:=fun c o hc ho=>by
  refine g.block c (Array.getElem?_eq_some_iff.1 hc).1 fun e=>?_
  obtain⟨-,cur,f,q⟩:=qbo h.ow c e.symm
  rw[hc] at q
  injection q with q
  exact ho _ _ q
 refine⟨h.wk.trans ⟨⟨g.os,g.tape,g.output,g.size,fun k hk=>g.block k (by have:=h.hB;have:=h.wk.wc.size;omega) fun e=>by have:=(qbo h.ow k e.symm).1;omega⟩,Wc.row h.ow g⟩,?_,?_,?_,?_,?_⟩
 ·exact⟨(key _ _ h.bt.1 (fun cs fr e=>by injection e with _ e _;exact h.bt.2 e)).trans h.bt.1,h.bt.2⟩
 ·exact⟨(key _ _ h.bx.1 (fun cs fr e=>by injection e with _ e _;exact h.bx.2 e)).trans h.bx.1,h.bx.2⟩
 ·rw[List.length_append,List.map_append];exact ho
 ·obtain⟨es,c,q⟩:=h.mv.at
  exact h.mv.blk (key _ _ q (fun cs fr e=>by cases e))
 ·exact h.nm.blk fun k hk=>g.block k (by rcases hk with rfl|rfl;exact h.nm.lt.1;exact h.nm.lt.2) fun e=>by
   have:=(qbo h.ow k e.symm).1
   have:=h.hv
   have:=h.hf
   rcases hk with rfl|rfl <;> omega
theorem qbc {u:Value}{c j k:Nat}{v:Value}{e sz:Nat}{cs:List Value}(h:W.ownsRow B e sz v k cs)(hc:∀ q,v.ownBlock=some q→q≠c):(W.setCell ⟨c,j,none⟩ u).ownsRow B e sz v k cs:=by
 refine⟨h.1,?_⟩
 rcases h.2 with h0|⟨g,cap,cur,e1,e2,e3,e4⟩
 ·exact .inl h0
 ·refine .inr ⟨g,cap,cur,e1,e2,?_,e4⟩
  rw[Below.heap_setCell _ _ _ _ (hc g (by rw[e1];rfl))]
  exact e3
theorem Dz.store {v' u:Value}{op':List ByteArray}{fr':Int}{j:Nat}(wk:Wd9 B sb lb w W)(bt:BoxC W w.heap.size #[.int .i64 b,.bool s] 34)(bx:BoxC W sb #[.map (some vb),.map (some fb),.int .i64 wd,.map (some lb),v,.int .i64 fr,.int .i64 (lp:Int),.int .i64 res.1,.bool res.2] 87)
  (ow:W.ownsRow B 9 1 v' op'.length (op'.map .string)) (mv:Mv W lb n (fun k=>(m k).map encV)) (nm:Nm W vb fb E) (hs:B≤sb) (hl:B≤lb) (hv:vb<B) (hf:fb<B) (hB:B≤w.heap.size) (lts:sb<w.heap.size∧lb<w.heap.size)
  (hj:#[.map (some vb),.map (some fb),.int .i64 wd,.map (some lb),v',.int .i64 fr',.int .i64 (lp:Int),.int .i64 res.1,.bool res.2]=(#[.map (some vb),.map (some fb),.int .i64 wd,.map (some lb),v,.int .i64 fr,.int .i64 (lp:Int),.int .i64 res.1,.bool res.2]:Array Value).setIfInBounds j u) :
  Dz B w (W.setCell ⟨sb,j,none⟩ u) sb vb fb lb wd E res lp b s v' n op' fr' m:=by
 refine⟨wk.trans ⟨Below.setCell (Below.refl _ _) hs _,Wc.setCell _ _⟩,bt.other (by omega),?_,qbc ow fun q hq e=>?_,mv.setCell fun e=>?_,nm.blk fun k hk=>Below.heap_setCell _ _ _ _ (show k≠sb by rcases hk with rfl|rfl <;> omega),hs,hl,hv,hf,hB,lts⟩
 ·rw[hj];exact bx.set
 ·obtain⟨-,cur,f,q2⟩:=qbo ow q hq
  rw[e,bx.1] at q2
  injection q2 with q2
  injection q2 with _ q2 _
  exact bx.2 q2
 ·obtain⟨es,c,q⟩:=mv.at
  rw[e,bx.1] at q
  cases q
end
theorem infoStrC:(Tryz.prog.info? 9).map (fun i=>(i.zero,i.size,i.bytes))=some (some (.string ⟨#[]⟩),1,16):=by kernel_rfl
theorem qav {P:Program}{w:World}{ops:Array Oper}{rest:List Oper}{o:Oper}{a:Act}{Q:Exit→Act→World→Prop}(hgd:o.guard=none)(s x:Operand)(t:TypeId)
  (ho:o.op=.call { callee:=.builtin .append,args:=#[s,x],argTypes:=#[t,t] })
  (base:Nat) (e:TypeId) (i:TypeInfo) (z:Value) (size bytes:Nat) (ht:P.underlying t=some (.slice e)) (hi:P.info? e=some i) (hz:i.zero=some z)
  (hsize:i.size=size) (hby:i.bytes=bytes) (hzs:z.cells.size=size) (hsz:0<size)
  (v:Value) (n:Nat) (xs:List Value) (hs:a.eval s=v) (hown:w.ownsRow base e size v n xs)
  (vx:Value) (m:Nat) (news:List Value) (hx:a.eval x=vx) (hl:Lies w size vx m news) (h1:∀ u∈news,u.oneCell'=true)
  (h63:n+m≤maxLen) (hbytes:(n+m)*bytes≤140737488355328) (hbase:base≤w.heap.size)
  (h:∀ v' w',w'.ownsRow base e size v' (n+m) (xs++news)→w.grownBy w' v.ownBlock→wpList P ops Q rest (a.put o.dst v') w'):wpList P ops Q (o::rest) a w:=by
 rcases hl.src with ⟨rfl,rfl,rfl⟩|⟨ad,cap,rfl,hlen,hc⟩
 ·exact wpList_append_own_none hgd s x t ho base e i size ht hi v n xs hs hown hx (h v w (by simpa using hown) (World.grownBy.refl _ _))
 ·exact wpList_append_own_at w hgd s x t ho base e i z size bytes ht hi hz hsize hby hzs hsz v n xs hs hown ad m cap news hx hlen hc h1 h63 hbytes hbase fun v' w' k1 k2 _ _=>h v' w' k1 k2
theorem lies_one1 {w:World}{b:Nat}{u:Value}(h:Box w b [u]):Lies w 1 (.slice (some ⟨b,0,none⟩) 1 1) 1 [u] :=
 ⟨rfl,some ⟨b,0,none⟩,1,rfl,Nat.le_refl _,by unfold maxLen;omega,(fun h=>by cases h),fun _=>⟨b,0,rfl,h.1,fun j hj=>by
  obtain rfl:j=0:=by omega
  exact h.2.1 0 u rfl⟩⟩
theorem wds_ge (b:Int):1≤wds b∧wds b≤4:=by
 unfold wds
 repeat' split
 all_goals omega
theorem declare_any (B:Nat)(w:World)(sb vb fb lb:Nat)(wd:Int)(E:Nev)(L:Loc)(res:Int × Bool)(lp:Nat)(h:Sc B w sb vb fb lb wd E L res lp)(b:Int)(s:Bool)(nm:ByteArray)(hn:nm.size≤maxLen)(hb:IsW b)(hfr:L.fr≤1000000) :
  Calls Tryz.prog 30 #[.pointer (some ⟨sb,0,none⟩),.agg #[.int .i64 b,.bool s],.string nm] w fun e w'=>e=.returned (.int .i64 (declC L b s nm).1)∧Sc B w' sb vb fb lb wd E (declC L b s nm).2 res lp∧Wd9 B sb lb w w':=by
 obtain⟨i0,hi0,hz0,hz1,hz2⟩:=qbb infoStrC
 obtain⟨op,fr,m,hL⟩:∃ op fr m,L=⟨m,op,fr⟩:=⟨_,_,_,rfl⟩
 subst hL
 have hlts:=h.lts
 obtain⟨⟨v,n,h1,h2,h3,h4⟩,hnm,hs,hl,hv,hf,hB⟩:=h
 dsimp only at h1 h2 h3 h4 hfr
 obtain⟨va,vc,rfl⟩:=qaj h2
 have k0:=qaa w (.cells #[.int .i64 b,.bool s] 34)
 have D:=zH (show Dz B w (w.alloc (.cells #[.int .i64 b,.bool s] 34)) sb vb fb lb wd E res lp b s (.slice va op.length vc) n op fr m from⟨Wd9.of k0 hB,BoxC.new _ _ _ (by decide),h1.step k0,qay h2 k0,h3.step k0,hnm.step k0,hs,hl,hv,hf,hB,hlts⟩)
 have R1:=(uI D).mv.run_ok Tryz.underlying85 (zLocal _) nm hn
 rw[enc_getD] at R1
 have H4:=zH h4
 have HB:=zH hb
 clear h1 h2 h3 h4 hnm hs hl hv hf hB hlts k0 hb
 obtain⟨R,hR⟩:∃ R,R=declC ⟨m,op,fr⟩ b s nm:=⟨_,rfl⟩
 obtain⟨q,hq⟩:∃ q,q=wds b:=⟨_,rfl⟩
 rw[← hR]
 have c3:=zC (uI D).bx 3 _ rfl
 have c4:=zC (uI D).bx 4 _ rfl
 have c5:=zC (uI D).bx 5 _ rfl
 have hsb:=(uI D).bx.lt
 have hsf:=(uI D).bx.box.2.2
 have t0:=zC (uI D).bt 0 _ rfl
 have t1:=zC (uI D).bt 1 _ rfl
 have hst:=(uI D).bt.lt
 generalize hW0:w.alloc (.cells #[.int .i64 b,.bool s] 34)=W0 at *
 rcases hm:m nm with _|⟨yb,ys,yc⟩
 rotate_left
 ·obtain rfl:R=(7,⟨m,op,fr⟩):=by rw[hR];exact if_pos (show (m nm).isSome=true by rw[hm];rfl)
  rw[hm] at R1
  have HM:=zH hm
  clear hm
  simp only[Option.getD_some,Option.map_some,Option.isSome_some,encV] at R1
  go_enter Tryz.func30,Tryz.ntmps30
  go_wp2_with fail
  go_ret
  have D2:=(uI D).step (qaa _ (.cells #[.int .i64 yb,.bool ys,.bool yc] 112))
  exact⟨rfl,⟨⟨_,_,D2.bx,D2.ow,D2.mv,uI H4⟩,D2.nm,D2.hs,D2.hl,D2.hv,D2.hf,Nat.le_trans D2.hB D2.wk.wc.size⟩,D2.wk⟩
 ·obtain rfl:R=(0,⟨fun j=>if j=nm then some (b,s,true) else m j,op++[nm],fr+q⟩):=by rw[hR,hq];exact if_neg (show ¬ (m nm).isSome=true by rw[hm];decide)
  rw[hm] at R1
  have HM:=zH hm
  have HQ0:=zH hq
  clear hm hq
  simp only[Option.getD_none,Option.map_none,Option.isSome_none,encV] at R1
  go_enter Tryz.func30,Tryz.ntmps30
  go_wp2_with fail
  have D1:=zH ((uI D).step (qaa _ (.cells #[.int .i64 0,.bool false,.bool false] 112)))
  generalize W0.alloc (.cells #[.int .i64 0,.bool false,.bool false] 112)=W1 at *
  refine zU (fun W=>W.cell? ⟨sb,3,none⟩=some (.map (some lb))∧W.cell? ⟨w.heap.size,0,none⟩=some (.int .i64 b)∧W.cell? ⟨w.heap.size,1,none⟩=some (.bool s)) (by kernel_rfl) ?_
  have D2:=zH ((uI D1).step (Below.refl _ _).drew)
  clear D D1 R1 c3 c4 c5 hsb hsf t0 t1 hst
  generalize W1.drew=W8 at *
  have CL:=zH (fun (W:World) (n:Nat) (m:ByteArray→Option (Int × Bool × Bool)) (D:Dz B w W sb vb fb lb wd E res lp b s (.slice va op.length vc) n op fr m)=>(⟨zC D.bx 3 _ rfl,zC D.bt 0 _ rfl,zC D.bt 1 _ rfl⟩:W.cell? ⟨sb,3,none⟩=some (.map (some lb))∧W.cell? ⟨w.heap.size,0,none⟩=some (.int .i64 b)∧W.cell? ⟨w.heap.size,1,none⟩=some (.bool s)))
  refine qR 0 7 1 ?_
  simp only[zTD]
  repeat (refine zS (fun K hK=>?_);go_simp;first|(refine zQ ?_ (fun W hW=>?_) (hK _ ?_);rotate_left;(obtain⟨d0,d1,d2⟩:=hW;go_simp;first|done|rfl);clear hK K)|(refine hK _ ?_;clear hK K))
  refine zO ?_
  refine qO 7 0 (uI CL _ _ _ (uI D2)) ?_
  simp only[zTD]
  go_wp2_with (at_mapUpdate;refine wpList_putVv rfl (.tmp 22) (.tmp 23) (.tmp 25) 85 112 rfl Tryz.underlying85 lb n _ rfl (uI D2).mv (by have:=uI H4;unfold maxLen;omega) nm rfl hn (encV (b,s,true)) rfl ?_;intro w9 m9 g9;have D9:=zH ((uI D2).put m9 g9);clear m9 g9)
  first|refine zN ?_|refine zG ?_
  refine zE (by kernel_rfl) (uI CL _ _ _ (uI D9)) ?_
  clear D2 CL
  have D:=D9
  clear D9
  have c3:=zC (uI D).bx 3 _ rfl
  have c4:=zC (uI D).bx 4 _ rfl
  have c5:=zC (uI D).bx 5 _ rfl
  have hsb:=(uI D).bx.lt
  have hsf:=(uI D).bx.box.2.2
  have t0:=zC (uI D).bt 0 _ rfl
  have t1:=zC (uI D).bt 1 _ rfl
  have hst:=(uI D).bt.lt
  have D10:=zH ((uI D).step (qaa _ (.cells #[.string nm] 9)))
  have BN:=zH (Box.new w9 #[.string nm] 9)
  have HSZ:=zH (show B≤(w9.alloc (.cells #[.string nm] 9)).heap.size from Nat.le_trans (uI D10).hB (uI D10).wk.wc.size)
  go_wp2_with (at_builtin;refine qav rfl (.tmp 30) (.tmp 32) 52 rfl B 9 i0 _ 1 16 Tryz.underlying52 hi0 hz0 hz1 hz2 rfl (by decide) _ _ _ rfl (uI D10).ow _ 1 [.string nm] rfl (lies_one1 (uI BN)) (by intro u hu;simp at hu;subst hu;rfl) (by have:=uI H4;unfold maxLen;omega) (by have:=uI H4;omega) (uI HSZ) ?_;intro v' w10 o10 g10;obtain⟨va',vc',rfl⟩:=qaj o10;have A9:=zH ((uI D10).app o10 g10);clear o10 g10 c3 c4 c5 hsb hsf t0 t1 hst;have c4:=zC (uI A9).2.2.1 4 _ rfl;have hsf:=(uI A9).2.2.1.box.2.2;have hsb:=(uI A9).2.2.1.lt)
  have D11:=zH (show Dz B w (w10.setCell ⟨sb,4,none⟩ (.slice va' (op.length+1) vc')) sb vb fb lb wd E res lp b s (.slice va' (op.length+1) vc') (n+1) (op++[nm]) fr (fun j=>if j=nm then some (b,s,true) else m j) from Dz.store (uI A9).1 (uI A9).2.1 (uI A9).2.2.1 (uI A9).2.2.2.1 (uI A9).2.2.2.2.1 (uI A9).2.2.2.2.2 (uI D10).hs (uI D10).hl (uI D10).hv (uI D10).hf (uI D10).hB (uI D10).lts rfl)
  clear A9 D10 D BN HSZ c4 hsf hsb
  generalize w10.setCell ⟨sb,4,none⟩ (.slice va' (op.length+1) vc')=W11 at *
  have hfr0:0≤fr:=by have:=uI H4;omega
  have CW:=zH (fun w=>twords_any b s w (uI HB))
  obtain⟨hq1,hq2⟩:=wds_ge b
  rw[← uI HQ0] at CW hq1 hq2
  have HQ1:=zH hq1
  have CL:=zH (fun (W:World) (D:Dz B w W sb vb fb lb wd E res lp b s (.slice va' (op.length+1) vc') (n+1) (op++[nm]) fr (fun j=>if j=nm then some (b,s,true) else m j))=>(⟨zC D.bt 0 _ rfl,zC D.bt 1 _ rfl⟩:W.cell? ⟨w.heap.size,0,none⟩=some (.int .i64 b)∧W.cell? ⟨w.heap.size,1,none⟩=some (.bool s)))
  refine zU (fun W=>W.cell? ⟨w.heap.size,0,none⟩=some (.int .i64 b)∧W.cell? ⟨w.heap.size,1,none⟩=some (.bool s)) (by kernel_rfl) ?_
  have D12:=zH ((uI D11).step (Below.refl _ _).drew)
  clear D11
  generalize W11.drew=W12 at *
  refine qR 0 3 7 ?_
  simp only[zTD]
  repeat (refine zS (fun K hK=>?_);go_simp;first|(refine zQ ?_ (fun W hW=>?_) (hK _ ?_);rotate_left;(obtain⟨d0,d1⟩:=hW;go_simp;first|done|rfl);clear hK K)|(refine hK _ ?_;clear hK K))
  refine zO ?_
  refine qR 4 1 6 ?_
  simp only[zTD]
  repeat (refine zS (fun K hK=>?_);go_simp;first|(refine zQ ?_ (fun W hW=>?_) (hK _ ?_);rotate_left;(obtain⟨d0,d1⟩:=hW;go_simp;first|done|rfl);clear hK K)|(refine hK _ ?_;clear hK K))
  refine zO ?_
  refine qbv 3 5 5 (by kernel_rfl) (by kernel_rfl) (uI CL _ (uI D12)) ?_ ?_
  all_goals simp only[zTD]
  ·have c5:=zC (uI D12).bx 5 _ rfl
   have hsb:=(uI D12).bx.lt
   go_wp2_with fail
   first|refine zN ?_|refine zG ?_
   refine qO 5 4 (uI CL _ (uI D12)) ?_
   simp only[zTD]
   go_wp2_with fail
   refine (uI CW _).mono ?_
   rintro e w13 ⟨rfl,k13⟩
   have D13:=zH ((uI D12).step k13)
   clear c5 hsb k13 D12
   go_wp2_with fail
   first|refine zN ?_|refine zG ?_
   refine qO 6 3 (uI CL _ (uI D13)) ?_
   simp only[zTD]
   go_wp2_with fail
   first|refine zN ?_|refine zG ?_
   refine qR 7 2 1 ?_
   simp only[zTD]
   repeat (refine zS (fun K hK=>?_);go_simp;first|(refine zQ ?_ (fun W hW=>?_) (hK _ ?_);rotate_left;(obtain⟨d0,d1⟩:=hW;go_simp;first|done|rfl);clear hK K)|(refine hK _ ?_;clear hK K))
   refine zO ?_
   have c5:=zC (uI D13).bx 5 _ rfl
   have hsb:=(uI D13).bx.lt
   have hsf:=(uI D13).bx.box.2.2
   refine qO 9 0 (uI CL _ (uI D13)) ?_
   simp only[zTD]
   go_wp2_with fail
   first|refine zN ?_|refine zG ?_
   have D14:=zH (show Dz B w (w13.setCell ⟨sb,5,none⟩ (.int .i64 (fr+q))) sb vb fb lb wd E res lp b s (.slice va' (op.length+1) vc') (n+1) (op++[nm]) (fr+q) (fun j=>if j=nm then some (b,s,true) else m j) from Dz.store (uI D13).wk (uI D13).bt (uI D13).bx (uI D13).ow (uI D13).mv (uI D13).nm (uI D13).hs (uI D13).hl (uI D13).hv (uI D13).hf (uI D13).hB (uI D13).lts rfl)
   have HCE:=zH (show (w13.setCell ⟨sb,5,none⟩ (.int .i64 (fr+q))).cell? ⟨w.heap.size,0,none⟩=some (.int .i64 b)∧(w13.setCell ⟨sb,5,none⟩ (.int .i64 (fr+q))).cell? ⟨w.heap.size,1,none⟩=some (.bool s) from⟨zC (uI D14).bt 0 _ rfl,zC (uI D14).bt 1 _ rfl⟩)
   refine zE (by kernel_rfl) (uI HCE) ?_
   go_wp2_with fail
   go_ret
   have Z:=uI D14
   refine⟨rfl,⟨⟨_,_,Z.bx,Z.ow,Z.mv,?_⟩,Z.nm,Z.hs,Z.hl,Z.hv,Z.hf,Nat.le_trans Z.hB Z.wk.wc.size⟩,Z.wk⟩
   have:=uI H4
   have:=uI HQ1
   simp only[List.length_append,List.length_cons,List.length_nil]
   omega
  ·go_wp2_with fail
   refine (uI CW _).mono ?_
   rintro e w13 ⟨rfl,k13⟩
   have D13:=zH ((uI D12).step k13)
   clear k13 D12
   go_wp2_with fail
   first|refine zN ?_|refine zG ?_
   have c5:=zC (uI D13).bx 5 _ rfl
   have hsb:=(uI D13).bx.lt
   refine qO 3 4 (uI CL _ (uI D13)) ?_
   simp only[zTD]
   go_wp2_with fail
   first|refine zN ?_|refine zG ?_
   clear c5 hsb
   refine qO 6 3 (uI CL _ (uI D13)) ?_
   simp only[zTD]
   go_wp2_with fail
   first|refine zN ?_|refine zG ?_
   refine qR 7 2 1 ?_
   simp only[zTD]
   repeat (refine zS (fun K hK=>?_);go_simp;first|(refine zQ ?_ (fun W hW=>?_) (hK _ ?_);rotate_left;(obtain⟨d0,d1⟩:=hW;go_simp;first|done|rfl);clear hK K)|(refine hK _ ?_;clear hK K))
   refine zO ?_
   have c5:=zC (uI D13).bx 5 _ rfl
   have hsb:=(uI D13).bx.lt
   have hsf:=(uI D13).bx.box.2.2
   refine qO 9 0 (uI CL _ (uI D13)) ?_
   simp only[zTD]
   go_wp2_with fail
   first|refine zN ?_|refine zG ?_
   have D14:=zH (show Dz B w (w13.setCell ⟨sb,5,none⟩ (.int .i64 (fr+q))) sb vb fb lb wd E res lp b s (.slice va' (op.length+1) vc') (n+1) (op++[nm]) (fr+q) (fun j=>if j=nm then some (b,s,true) else m j) from Dz.store (uI D13).wk (uI D13).bt (uI D13).bx (uI D13).ow (uI D13).mv (uI D13).nm (uI D13).hs (uI D13).hl (uI D13).hv (uI D13).hf (uI D13).hB (uI D13).lts rfl)
   have HCE:=zH (show (w13.setCell ⟨sb,5,none⟩ (.int .i64 (fr+q))).cell? ⟨w.heap.size,0,none⟩=some (.int .i64 b)∧(w13.setCell ⟨sb,5,none⟩ (.int .i64 (fr+q))).cell? ⟨w.heap.size,1,none⟩=some (.bool s) from⟨zC (uI D14).bt 0 _ rfl,zC (uI D14).bt 1 _ rfl⟩)
   refine zE (by kernel_rfl) (uI HCE) ?_
   go_wp2_with fail
   go_ret
   have Z:=uI D14
   refine⟨rfl,⟨⟨_,_,Z.bx,Z.ow,Z.mv,?_⟩,Z.nm,Z.hs,Z.hl,Z.hv,Z.hf,Nat.le_trans Z.hB Z.wk.wc.size⟩,Z.wk⟩
   have:=uI H4
   have:=uI HQ1
   simp only[List.length_append,List.length_cons,List.length_nil]
   omega
structure Hz (B:Nat)(w W:World)(sb vb fb lb:Nat)(wd:Int)(E:Nev)(res:Int × Bool)(lp:Nat)(v:Value)(n:Nat)(op:List ByteArray)(fr:Int)(m:ByteArray→Option (Int × Bool × Bool)):Prop where
 wk:Wd9 B sb lb w W
 bx:BoxC W sb #[.map (some vb),.map (some fb),.int .i64 wd,.map (some lb),v,.int .i64 fr,.int .i64 (lp:Int),.int .i64 res.1,.bool res.2] 87
 ow:W.ownsRow B 9 1 v op.length (op.map .string)
 mv:Mv W lb n (fun k=>(m k).map encV)
 nm:Nm W vb fb E
 hs:B≤sb
 hl:B≤lb
 hv:vb<B
 hf:fb<B
 hB:B≤w.heap.size
section
variable {B:Nat} {w W W':World} {sb vb fb lb:Nat} {wd:Int} {E:Nev} {res:Int × Bool} {lp:Nat} {v:Value} {n:Nat} {op:List ByteArray} {fr:Int} {m:ByteArray→Option (Int × Bool × Bool)}
theorem Hz.slb (h:Hz B w W sb vb fb lb wd E res lp v n op fr m):sb≠lb:=by
 intro e
 obtain⟨es,c,h1⟩:=h.mv.at
 have:=h.bx.1
 rw[e,h1] at this
 cases this
theorem Hz.drew (h:Hz B w W sb vb fb lb wd E res lp v n op fr m):Hz B w W.drew sb vb fb lb wd E res lp v n op fr m:=by
 have k:=(Below.refl W.heap.size W).drew
 exact⟨h.wk.drew,h.bx.step k,qay h.ow k,h.mv.step k,h.nm.step k,h.hs,h.hl,h.hv,h.hf,h.hB⟩
theorem Hz.put {nm:ByteArray}(h:Hz B w W sb vb fb lb wd E res lp v n op fr m)(x:Int × Bool × Bool)(hm:Mv W' lb (n+1) (putV (fun k=>(m k).map encV) nm (encV x)))(g:W.grownBy W' (some lb)):Hz B w W' sb vb fb lb wd E res lp v (n+1) op fr (fun j=>if j=nm then some x else m j):=by
 have hne:∀ c,c≠lb→some c≠some lb:=fun c hc e=>hc (by injection e)
 refine⟨h.wk.trans ⟨⟨g.os,g.tape,g.output,g.size,fun k hk=>g.block k (by have:=h.hB;have:=h.wk.wc.size;omega) (hne k (by have:=h.hl;omega))⟩,Wc.map g⟩,?_,?_,?_,?_,h.hs,h.hl,h.hv,h.hf,h.hB⟩
 ·exact⟨(g.block _ h.bx.lt (hne _ h.slb)).trans h.bx.1,h.bx.2⟩
 ·refine⟨h.ow.1,?_⟩
  rcases h.ow.2 with h0|⟨c,cap,cur,e1,e2,e3,e4⟩
  ·exact .inl h0
  ·refine .inr ⟨c,cap,cur,e1,e2,?_,e4⟩
   rw[g.block c (Array.getElem?_eq_some_iff.1 e3).1 (hne c ?_)]
   ·exact e3
   ·intro e
    obtain⟨es,k,q⟩:=h.mv.at
    rw[e,q] at e3
    cases e3
 ·refine hm.congr fun k=>?_
  unfold putV
  by_cases e:k=nm
  ·rw[if_pos e,if_pos e];rfl
  ·rw[if_neg e,if_neg e]
 ·exact h.nm.blk fun k hk=>g.block k (by rcases hk with rfl|rfl;exact h.nm.lt.1;exact h.nm.lt.2) (hne k (by have:=h.hl;have:=h.hv;have:=h.hf;rcases hk with rfl|rfl <;> omega))
theorem Hz.store {v' u:Value}{op':List ByteArray}{fr':Int}{lp' j:Nat}(h:Hz B w W sb vb fb lb wd E res lp v n op fr m)(ow:W.ownsRow B 9 1 v' op'.length (op'.map .string))
  (hj:#[.map (some vb),.map (some fb),.int .i64 wd,.map (some lb),v',.int .i64 fr',.int .i64 (lp':Int),.int .i64 res.1,.bool res.2]=(#[.map (some vb),.map (some fb),.int .i64 wd,.map (some lb),v,.int .i64 fr,.int .i64 (lp:Int),.int .i64 res.1,.bool res.2]:Array Value).setIfInBounds j u) :
  Hz B w (W.setCell ⟨sb,j,none⟩ u) sb vb fb lb wd E res lp' v' n op' fr' m:=by
 have hs:=h.hs
 have hv:=h.hv
 have hf:=h.hf
 refine⟨h.wk.trans ⟨Below.setCell (Below.refl _ _) hs _,Wc.setCell _ _⟩,?_,qbc ow fun q hq e=>?_,h.mv.setCell fun e=>?_,h.nm.blk fun k hk=>Below.heap_setCell _ _ _ _ (show k≠sb by rcases hk with rfl|rfl <;> omega),hs,h.hl,hv,hf,h.hB⟩
 ·rw[hj];exact h.bx.set
 ·obtain⟨-,cur,f,q2⟩:=qbo ow q hq
  rw[e,h.bx.1] at q2
  injection q2 with q2
  injection q2 with _ q2 _
  exact h.bx.2 q2
 ·obtain⟨es,c,q⟩:=h.mv.at
  rw[e,h.bx.1] at q
  cases q
theorem own_take {k:Nat}{va:Option Addr}{cap len:Nat}{cs:List Value}(h:W.ownsRow B 9 1 (.slice va len cap) len cs)(hk:k≤len):W.ownsRow B 9 1 (.slice va k cap) k (cs.take k):=by
 refine⟨by rw[List.length_take,h.1];omega,?_⟩
 rcases h.2 with ⟨e,e0⟩|⟨g,c,cur,e1,e2,e3,e4,e5,e6,e7⟩
 ·injection e with e1 e2 e3
  subst e1 e2 e3
  obtain rfl:k=0:=by omega
  exact .inl ⟨rfl,rfl⟩
 ·injection e1 with e1 _ e8
  subst e1 e8
  refine .inr ⟨g,_,cur,rfl,e2,e3,by omega,e5,e6,?_⟩
  rw[← e7,List.take_take]
  congr 1
  omega
end
theorem Sc.hz {B:Nat}{w:World}{sb vb fb lb:Nat}{wd:Int}{E:Nev}{m:ByteArray→Option (Int × Bool × Bool)}{op:List ByteArray}{fr:Int}{res:Int × Bool}{lp:Nat}(h:Sc B w sb vb fb lb wd E ⟨m,op,fr⟩ res lp):∃ va vc n,Hz B w w sb vb fb lb wd E res lp (.slice va op.length vc) n op fr m∧((n+op.length:Nat):Int)≤2*fr:=by
 obtain⟨⟨v,n,h1,h2,h3,h4⟩,hn,a1,a2,a3,a4,a5⟩:=h
 obtain⟨va,vc,rfl⟩:=qaj h2
 exact⟨va,vc,n,⟨Wd9.refl _ _ _ _,h1,h2,h3,hn,a1,a2,a3,a4,a5⟩,h4⟩
theorem Hz.sc {B:Nat}{w W:World}{sb vb fb lb:Nat}{wd:Int}{E:Nev}{m:ByteArray→Option (Int × Bool × Bool)}{op:List ByteArray}{fr:Int}{res:Int × Bool}{lp n:Nat}{v:Value}(h:Hz B w W sb vb fb lb wd E res lp v n op fr m)(hn:((n+op.length:Nat):Int)≤2*fr):Sc B W sb vb fb lb wd E ⟨m,op,fr⟩ res lp :=
 ⟨⟨v,n,h.bx,h.ow,h.mv,hn⟩,h.nm,h.hs,h.hl,h.hv,h.hf,Nat.le_trans h.hB h.wk.wc.size⟩
def hidM (m:ByteArray→Option (Int × Bool × Bool))(l:List ByteArray):ByteArray→Option (Int × Bool × Bool):=fun j=>if l.any (fun k=>decide (j=k))=true then some (0,false,false) else m j
theorem hidM_push (m:ByteArray→Option (Int × Bool × Bool))(l:List ByteArray)(x:ByteArray):(fun j=>if j=x then some (0,false,false) else hidM m l j)=hidM m (l++[x]):=by
 funext j
 unfold hidM
 rw[List.any_append]
 by_cases e:j=x
 ·rw[if_pos e,if_pos (by simp[e])]
 ·rw[if_neg e]
  have h1:(List.any [x] fun k=>decide (j=k))=false:=by simp[e]
  rw[h1,Bool.or_false]
theorem hide_any (u:FrameMode)(B:Nat)(w:World)(sb vb fb lb:Nat)(wd:Int)(E:Nev)(L:Loc)(res:Int × Bool)(lp ahead:Nat)(h:Sc B w sb vb fb lb wd E L res lp)(ha:ahead≤L.op.length)(hop:∀ k∈L.op,k.size≤maxLen)(hfr:L.fr≤1000000) :
  CallsD Tryz.prog 51 #[.pointer (some ⟨sb,0,none⟩),.int .i64 (ahead:Int)] u w fun e u' w'=>u'=u∧(e=.returned (.tuple #[])∧Sc B w' sb vb fb lb wd E (hideC ahead L) res lp∧Wd9 B sb lb w w'):=by
 obtain⟨op,fr,m,hL⟩:∃ op fr m,L=⟨m,op,fr⟩:=⟨_,_,_,rfl⟩
 subst hL
 obtain⟨va,vc,n,h0,h4⟩:=h.hz
 dsimp only at ha hop hfr
 have H0:=zH h0
 have H4:=zH h4
 have HP:=zH hop
 have c4:=zC h0.bx 4 _ rfl
 have hsb:=h0.bx.lt
 have hcap:op.length≤vc∧vc≤maxLen:=by
  obtain⟨_,ao,cap,e,h1,h2,_⟩:=Lies.owned h0.ow
  injection e with _ _ e
  subst e
  exact⟨h1,h2⟩
 unfold maxLen at hcap
 obtain⟨hc1,hc2⟩:=hcap
 have ha1:(ahead:Int)≤(op.length:Int):=by omega
 have hc3:(op.length:Int)≤(vc:Int):=by omega
 clear h h4 hop
 by_cases hz:vc=ahead
 ·subst hz
  have hlen:op.length=vc:=by omega
  have hl0:op.length - vc=0:=by omega
  have hl1:((op.length - vc:Nat):Int)=0:=by omega
  clear h0
  have HL:=zH hlen
  go_enter_d Tryz.func51,Tryz.ntmps51
  go_wp2_with fail
  go_loopg [13] 0 (fun gk t wr=>gk=0∧t=.int .i64 0∧wr=w)
  case atStart=>exact⟨rfl,rfl,rfl⟩
  case round =>
   obtain⟨rfl,rfl,rfl⟩:=hrel
   have hsf:=(uI H0).bx.box.2.2
   have Z:=zH (show Hz B wr (wr.setCell ⟨sb,4,none⟩ (.slice va vc vc)) sb vb fb lb wd E res lp (.slice va vc vc) n op fr m from (uI H0).store (by
    have ow:=(uI H0).ow
    rw[uI HL] at ow
    rw[uI HL]
    exact ow) rfl)
   go_wp2_with fail
   first|go_end0|refine bodyPost_ret (results_none rfl _ _ _) rfl ?_
   have e:hideC vc ⟨m,op,fr⟩=⟨m,op,fr⟩:=by
    unfold hideC
    dsimp only
    rw[List.drop_of_length_le (by omega),List.take_of_length_le (by omega)]
    simp
   rw[e]
   exact⟨rfl,(uI Z).sc (uI H4),(uI Z).wk⟩
 ·have hz1:ahead<vc:=by omega
  obtain⟨g,rfl⟩:∃ g,va=some ⟨g,0,none⟩:=by
   rcases h0.ow.2 with ⟨e,e0⟩|⟨g,c,cur,e1,_⟩
   ·injection e with _ _ e3
    omega
   ·injection e1 with e1
    exact⟨g,e1⟩
  clear h0
  go_enter_d Tryz.func51,Tryz.ntmps51
  go_wp2_with fail
  go_loopg [13] (op.length - ahead) (fun gk t wr=>∃ i:Nat,i≤op.length - ahead∧gk=op.length - ahead - i∧t=.int .i64 (i:Int)∧Hid (Hz B w wr sb vb fb lb wd E res lp (.slice (some ⟨g,0,none⟩) op.length vc) (n+i) op fr (hidM m ((op.drop ahead).take i))))
  case atStart=>exact⟨0,Nat.zero_le _,rfl,rfl,H0⟩
  case round =>
   clear H0 c4 hsb
   obtain⟨i,hi,hg,rfl,HC⟩:=hrel
   generalize wr=W1 at *
   have c3:=zC (uI HC).bx 3 _ rfl
   have c4:=zC (uI HC).bx 4 _ rfl
   have hsb:=(uI HC).bx.lt
   have hsf:=(uI HC).bx.box.2.2
   by_cases hlt:i<op.length - ahead
   ·have hiI:(i:Int)<((op.length - ahead:Nat):Int):=by omega
    have hi0:(0:Int)≤(i:Int):=by omega
    have hj:ahead+i<op.length:=by omega
    have x0:W1.cell? ⟨g,ahead+i,none⟩=some (.string op[ahead+i]):=by
     have:=World.ownsRow.cellAt (g:=g) (uI HC).ow (ahead+i) (by omega)
     rw[this]
     simp[List.getElem?_eq_getElem hj]
    have hsz:=uI HP _ (List.getElem_mem hj)
    have HD:=zH (show (op.drop ahead).take i++[op[ahead+i]]=(op.drop ahead).take (i+1) by
     rw[List.take_succ_eq_append_getElem (by rw[List.length_drop];exact hlt),List.getElem_drop])
    generalize op[ahead+i]=z at *
    go_wp2_with (at_mapUpdate;refine wpList_putVv rfl (.tmp 20) (.tmp 21) (.tmp 22) 85 112 rfl Tryz.underlying85 lb (n+i) _ rfl (uI HC).mv (by have:=uI H4;unfold maxLen;omega) z rfl hsz (encV (0,false,false)) rfl ?_;intro w9 m9 g9;have D9:=zH ((uI HC).put (0,false,false) m9 g9);clear m9 g9 c3 c4 hsb hsf x0)
    have D10:=zH (show Hz B w w9 sb vb fb lb wd E res lp (.slice (some ⟨g,0,none⟩) op.length vc) (n+(i+1)) op fr (hidM m ((op.drop ahead).take (i+1))) by
     have:=uI D9
     rw[hidM_push,uI HD] at this
     exact this)
    clear D9 HD HC
    go_wp2_with fail
    go_roundg (op.length - ahead - (i+1))
    case measure=>omega
    case rel=>exact⟨i+1,by omega,rfl,by go_num,D10⟩
   ·have hiI:¬ (i:Int)<((op.length - ahead:Nat):Int):=by omega
    have hii:i=op.length - ahead:=by omega
    have Z:=zH (show Hz B w (W1.setCell ⟨sb,4,none⟩ (.slice (some ⟨g,0,none⟩) ahead vc)) sb vb fb lb wd E res lp (.slice (some ⟨g,0,none⟩) ahead vc) (n+i) (op.take ahead) fr (hidM m ((op.drop ahead).take i)) from (uI HC).store (by
     have hl:(op.take ahead).length=ahead:=by rw[List.length_take];omega
     rw[hl,List.map_take]
     exact own_take (uI HC).ow ha) rfl)
    go_wp2_with fail
    first|go_end0|refine bodyPost_ret (results_none rfl _ _ _) rfl ?_
    have e1:(op.drop ahead).take i=op.drop ahead:=List.take_of_length_le (by rw[List.length_drop];omega)
    have z:=uI Z
    rw[e1] at z
    exact⟨rfl,z.sc (by have:=uI H4;rw[List.length_take];omega),z.wk⟩
theorem tells_any (x:Ex)(IH:TyC x)(B:Nat)(w:World)(sb vb fb lb:Nat)(wd:Int)(E:Nev)(L:Loc)(res:Int × Bool)(lp:Nat)(kv:Value)(h:Sc B w sb vb fb lb wd E L res lp)(hx:ExL B w kv x.kids)(hf:ExF x) :
  Calls Tryz.prog 95 #[.pointer (some ⟨sb,0,none⟩),.agg #[.int .i64 x.k,.int .u64 x.n,.int .i64 x.b,.bool x.s,.string x.nm,kv]] w fun e w'=>e=.returned (.int .i64 (tellC E L x))∧Below w.heap.size w w':=by
 obtain⟨ka,kc,rfl⟩:∃ ao cap,kv=.slice ao x.kids.length cap:=by obtain⟨ao,cap,e,-⟩:=hx.at;exact⟨ao,cap,e⟩
 have k0:=qaa w (.cells #[.int .i64 x.k,.int .u64 x.n,.int .i64 x.b,.bool x.s,.string x.nm,.slice ka x.kids.length kc] 57)
 have CT:=zH (toldType_any x IH B _ sb vb fb lb wd E L res lp _ (h.step k0) (hx.step (k0.mono h.hB)) hf)
 obtain⟨a0,a1,a2,a3,a4,a5⟩:=(Box.new w #[.int .i64 x.k,.int .u64 x.n,.int .i64 x.b,.bool x.s,.string x.nm,.slice ka x.kids.length kc] 57).six8
 have hsA:=(Box.new w #[.int .i64 x.k,.int .u64 x.n,.int .i64 x.b,.bool x.s,.string x.nm,.slice ka x.kids.length kc] 57).1
 have K0:=zH k0
 clear h hx hf IH k0
 unfold tellC
 generalize told (tyE E L x)=R at *
 obtain⟨⟨tb,ts⟩,er⟩:=R
 dsimp only at CT ⊢
 generalize hW0:w.alloc (.cells #[.int .i64 x.k,.int .u64 x.n,.int .i64 x.b,.bool x.s,.string x.nm,.slice ka x.kids.length kc] 57)=W0 at *
 go_enter Tryz.func95,Tryz.ntmps95
 go_wp2_with fail
 refine (uI CT).mono ?_
 rintro e w1 ⟨rfl,k1⟩
 have K1:=zH (bT (uI K0) k1)
 clear CT k1 K0 a0 a1 a2 a3 a4 a5 hsA
 go_wp2_with fail
 go_ret
 exact⟨rfl,bT (uI K1) (qaa _ _)⟩
theorem leaveD_any (u:FrameMode)(B:Nat)(w:World)(sb vb fb lb:Nat)(wd:Int)(E:Nev)(L:Loc)(res:Int × Bool)(lp:Nat)(h:Sc B w sb vb fb lb wd E L res (lp+1))(hl:lp≤1000000) :
  CallsD Tryz.prog 138 #[.pointer (some ⟨sb,0,none⟩)] u w fun e u' w'=>u'=u∧(e=.returned (.tuple #[])∧Sc B w' sb vb fb lb wd E L res lp∧Wd9 B sb lb w w'):=by
 obtain⟨op,fr,m,hL⟩:∃ op fr m,L=⟨m,op,fr⟩:=⟨_,_,_,rfl⟩
 subst hL
 obtain⟨va,vc,n,h0,h4⟩:=h.hz
 have c6:=zC h0.bx 6 _ rfl
 have hsb:=h0.bx.lt
 have hsf:=h0.bx.box.2.2
 have e1:((lp+1:Nat):Int)=(lp:Int)+1:=rfl
 rw[e1] at c6
 have es:(lp:Int)+1 - 1=(lp:Int):=by omega
 have hlI:(lp:Int)≤1000000:=by omega
 have hl0:(0:Int)≤(lp:Int):=by omega
 have Z:=zH (show Hz B w (w.setCell ⟨sb,6,none⟩ (.int .i64 (lp:Int))) sb vb fb lb wd E res lp (.slice va op.length vc) n op fr m from h0.store h0.ow rfl)
 have H4:=zH h4
 clear h h0 h4
 go_enter_d Tryz.func138,Tryz.ntmps138
 go_wp2_with fail
 first|go_end0|refine bodyPost_ret (results_none rfl _ _ _) rfl ?_
 exact⟨rfl,(uI Z).sc (uI H4),(uI Z).wk⟩
open Go.RowKit Go.Great
def smA (x:Sm)(v:Sv):Array Value:=(smC x v).toArray
theorem qak (x:Sm)(v:Sv):(smA x v).size=21:=rfl
theorem Tryz.sizeStat:(Tryz.prog.info? 103).map (·.size)=some 21:=by kernel_rfl
structure SmB (w:World)(b:Nat)(x:Sm)(v:Sv):Prop where
 heap:w.heap[b]?=some (.cells (smA x v) 103 (0,0))
theorem SmB.lt {w:World}{b:Nat}{x:Sm}{v:Sv}(h:SmB w b x v):b<w.heap.size:=(Array.getElem?_eq_some_iff.1 h.heap).1
theorem SmB.new (w:World)(x:Sm)(v:Sv):SmB (w.alloc (.cells (smA x v) 103)) w.heap.size x v:=⟨by show (w.heap.push _)[w.heap.size]?=_;simp⟩
theorem SmB.step {w w':World}{b:Nat}{x:Sm}{v:Sv}(h:SmB w b x v)(k:Below w.heap.size w w'):SmB w' b x v:=⟨(k.block b h.lt).trans h.heap⟩
theorem SmB.kb {w w':World}{b c:Nat}{x:Sm}{v:Sv}(h:SmB w b x v)(k:Kb c w w')(hc:b≠c):SmB w' b x v:=⟨(k.block b h.lt hc).trans h.heap⟩
theorem SmB.cell {w:World}{b:Nat}{x:Sm}{v:Sv}(h:SmB w b x v)(j:Nat)(u:Value)(hu:(smC x v)[j]?=some u):w.cell? ⟨b,j,none⟩=some u:=by
 unfold World.cell?
 simp only[h.heap]
 simpa [smA] using hu
theorem SmB.own {w:World}{b:Nat}{x:Sm}{v:Sv}(h:SmB w b x v):w.cell? ⟨b,0,none⟩=some (.int .i64 x.k)∧w.cell? ⟨b,1,none⟩=some (.int .i64 x.b)∧w.cell? ⟨b,2,none⟩=some (.bool x.s)∧w.cell? ⟨b,3,none⟩=some (.string x.nm)∧w.cell? ⟨b,4,none⟩=some (.bool x.has) :=
 ⟨h.cell 0 _ rfl,h.cell 1 _ rfl,h.cell 2 _ rfl,h.cell 3 _ rfl,h.cell 4 _ rfl⟩
theorem SmB.exX {w:World}{b:Nat}{x:Sm}{v:Sv}(h:SmB w b x v):w.cell? ⟨b,5,none⟩=some (.int .i64 x.x.k)∧w.cell? ⟨b,6,none⟩=some (.int .u64 x.x.n)∧w.cell? ⟨b,7,none⟩=some (.int .i64 x.x.b)∧w.cell? ⟨b,8,none⟩=some (.bool x.x.s)∧w.cell? ⟨b,9,none⟩=some (.string x.x.nm)∧w.cell? ⟨b,10,none⟩=some v.xk :=
 ⟨h.cell 5 _ rfl,h.cell 6 _ rfl,h.cell 7 _ rfl,h.cell 8 _ rfl,h.cell 9 _ rfl,h.cell 10 _ rfl⟩
theorem SmB.exI {w:World}{b:Nat}{x:Sm}{v:Sv}(h:SmB w b x v):w.cell? ⟨b,11,none⟩=some (.int .i64 x.i.k)∧w.cell? ⟨b,12,none⟩=some (.int .u64 x.i.n)∧w.cell? ⟨b,13,none⟩=some (.int .i64 x.i.b)∧w.cell? ⟨b,14,none⟩=some (.bool x.i.s)∧w.cell? ⟨b,15,none⟩=some (.string x.i.nm)∧w.cell? ⟨b,16,none⟩=some v.ik :=
 ⟨h.cell 11 _ rfl,h.cell 12 _ rfl,h.cell 13 _ rfl,h.cell 14 _ rfl,h.cell 15 _ rfl,h.cell 16 _ rfl⟩
theorem SmB.lists {w:World}{b:Nat}{x:Sm}{v:Sv}(h:SmB w b x v):w.cell? ⟨b,17,none⟩=some v.init∧w.cell? ⟨b,18,none⟩=some v.step∧w.cell? ⟨b,19,none⟩=some v.body∧w.cell? ⟨b,20,none⟩=some v.els :=
 ⟨h.cell 17 _ rfl,h.cell 18 _ rfl,h.cell 19 _ rfl,h.cell 20 _ rfl⟩
theorem qba (x:Sm)(v:Sv)(w:World):Calls Tryz.prog 170 #[.agg (smA x v)] w fun e w'=>e=.returned (.bool (hasX x.k x.has))∧Below w.heap.size w w':=by
 have ka:=qaa w (.cells (smA x v) 103)
 obtain⟨c0,c1,c2,c3,c4⟩:=(SmB.new w x v).own
 generalize smA x v=A at *
 generalize hW:w.alloc (.cells A 103)=w1 at *
 generalize x.k=k at *
 generalize x.has=has at *
 by_cases h:k=2∨k=3∨k=4∨k=5∨k=6∨k=7∨k=8
 ·rcases h with rfl|rfl|rfl|rfl|rfl|rfl|rfl
  all_goals
   go_enter Tryz.func170,Tryz.ntmps170
   go_wp2_with (refine wpList_boxTo rfl 103 (.tmp 0) rfl (some 1) rfl _ rfl A rfl ?_;rw[hW])
   go_ret
   exact⟨rfl,ka⟩
 ·have e2:(k==2)=false:=by apply zBq;omega
  have e3:(k==3)=false:=by apply zBq;omega
  have e4:(k==4)=false:=by apply zBq;omega
  have e5:(k==5)=false:=by apply zBq;omega
  have e6:(k==6)=false:=by apply zBq;omega
  have e7:(k==7)=false:=by apply zBq;omega
  have e8:(k==8)=false:=by apply zBq;omega
  have hx:hasX k has=false:=by unfold hasX;rw[if_neg (by omega),if_neg (by omega)]
  rw[hx]
  go_enter Tryz.func170,Tryz.ntmps170
  go_wp2_with (refine wpList_boxTo rfl 103 (.tmp 0) rfl (some 1) rfl _ rfl A rfl ?_;rw[hW])
  go_ret
  exact⟨rfl,ka⟩
end Go.Proofs.YtjpnnmkefaodoaaGreat
