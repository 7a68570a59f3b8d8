/-
  RcD.
-/
import Derived.Test.YtjpnnmkefaodoaaGreatyRcAy
set_option maxHeartbeats 8000000
set_option maxRecDepth 100000
namespace Go.Proofs.YtjpnnmkefaodoaaGreat
open Go.RowKit Go.Maps Go.Great
set_option linter.unusedSimpArgs false
set_option linter.unusedVariables false
theorem wdsS_ge (l:List (Int × Bool)):(l.length:Int)≤wdsS l:=by
 induction l with
 | nil=>exact Int.le_refl _
 | cons a l ih =>
  have:=(wds_ge a.1).1
  show ((l.length+1:Nat):Int)≤wds a.1+wdsS l
  omega
theorem own_otherD {B e e' sz sz' n n':Nat}{W W':World}{u v:Value}{cs cs':List Value}(hu:W.ownsRow B e' sz' u n' cs')(hv:W.ownsRow B e sz v n cs)(hne:e≠e')(g:W.grownBy W' v.ownBlock):W'.ownsRow B e' sz' u n' cs':=by
 refine⟨hu.1,?_⟩
 rcases hu.2 with hn|⟨q,cap,cur,rfl,hb,hg,r⟩
 ·exact .inl hn
 ·refine .inr ⟨q,cap,cur,rfl,hb,?_,r⟩
  rw[g.block q (Array.getElem?_eq_some_iff.1 hg).1 ?_]
  ·exact hg
  ·intro e2
   obtain⟨-,cur2,fr,h2⟩:=qbo hv q e2.symm
   rw[hg] at h2
   injection h2 with h2
   injection h2 with _ h2 _
   exact hne h2.symm
theorem qa9 {B e sz n b:Nat}{W W':World}{v:Value}{xs:List Value}{cs:Array Value}{T:TypeId}(h:BoxC W b cs T)(hv:W.ownsRow B e sz v n xs)(hne:T≠e)(g:W.grownBy W' v.ownBlock):BoxC W' b cs T:=by
 refine⟨(g.block b h.lt (fun e2=>?_)).trans h.1,h.2⟩
 obtain⟨-,cur2,fr,h2⟩:=qbo hv b e2.symm
 rw[h.1] at h2
 injection h2 with h2
 injection h2 with _ h2 _
 exact hne h2
theorem lies_one2 {w:World}{b:Nat}{x y:Value}(h:Box w b [x,y]):Lies w 2 (.slice (some ⟨b,0,none⟩) 1 1) 1 [x,y] :=
 ⟨rfl,some ⟨b,0,none⟩,1,rfl,Nat.le_refl _,by unfold maxLen;omega,(fun h=>by cases h),fun _=>⟨b,0,rfl,h.1,fun j hj=>by
  have:j=0∨j=1:=by omega
  rcases this with rfl|rfl
  ·exact h.2.1 0 _ rfl
  ·exact h.2.1 1 _ rfl⟩⟩
theorem lies_one5 {w:World}{b:Nat}{a0 a1 a2 a3 a4:Value}(h:Box w b [a0,a1,a2,a3,a4]):Lies w 5 (.slice (some ⟨b,0,none⟩) 1 1) 1 [a0,a1,a2,a3,a4] :=
 ⟨rfl,some ⟨b,0,none⟩,1,rfl,Nat.le_refl _,by unfold maxLen;omega,(fun h=>by cases h),fun _=>⟨b,0,rfl,h.1,fun j hj=>by
  have:j=0∨j=1∨j=2∨j=3∨j=4:=by omega
  rcases this with rfl|rfl|rfl|rfl|rfl
  ·exact h.2.1 0 _ rfl
  ·exact h.2.1 1 _ rfl
  ·exact h.2.1 2 _ rfl
  ·exact h.2.1 3 _ rfl
  ·exact h.2.1 4 _ rfl⟩⟩
theorem infoTy9:(Tryz.prog.info? 34).map (fun i=>(i.zero,i.size,i.bytes))=some (some (.agg #[.int .i64 0,.bool false]),2,16):=by kernel_rfl
theorem infoSe9:(Tryz.prog.info? 138).map (fun i=>(i.zero,i.size,i.bytes))=some (some (.agg #[.string ⟨#[]⟩,.int .i64 0,.bool false,.int .i64 0,.bool false]),5,48):=by kernel_rfl
structure Ad (B:Nat)(w W:World)(rb:Nat)(K:Rk)(lp:Nat)(sv hv mv:Value)(see:List Se)(had:List ByteArray)(mine:List (Int × Bool))(b:Int)(s:Bool):Prop where
 bx:BoxC W rb (K.cs sv hv mv lp) 67
 os:W.ownsRow B 138 5 sv see.length (see.flatMap seC)
 oh:W.ownsRow B 9 1 hv had.length (had.map .string)
 om:W.ownsRow B 34 2 mv mine.length (mine.flatMap mtC)
 bt:Box W w.heap.size [.int .i64 b,.bool s]
 wr:Wr B rb w W
 hB:B≤rb
 hr:rb<w.heap.size
 le:B≤W.heap.size
section
variable {B rb lp:Nat} {w W W':World} {K:Rk} {sv hv mv v':Value} {see:List Se} {had:List ByteArray} {mine:List (Int × Bool)} {b:Int} {s:Bool} {nm:ByteArray}
theorem Ad.step (h:Ad B w W rb K lp sv hv mv see had mine b s)(k:Below W.heap.size W W'):Ad B w W' rb K lp sv hv mv see had mine b s :=
 ⟨h.bx.step k,qay h.os k,qay h.oh k,qay h.om k,h.bt.step k,h.wr.trans (Wr.of k h.le),h.hB,h.hr,Nat.le_trans h.le k.size⟩
theorem Ad.rne (h:Ad B w W rb K lp sv hv mv see had mine b s):rb≠w.heap.size:=Nat.ne_of_lt h.hr
theorem box_grown {W W':World}{b:Nat}{cs:List Value}{r:Option Nat}(h:Box W b cs)(g:W.grownBy W' r)(hne:some b≠r):Box W' b cs :=
 ⟨Nat.lt_of_lt_of_le h.1 g.size,fun j u hu=>by rw[World.cell?_of_block (a:=⟨b,j,none⟩) (g.block b h.1 hne)];exact h.2.1 j u hu,fun j=>by rw[World.frozen?_of_block (a:=⟨b,j,none⟩) (g.block b h.1 hne)];exact h.2.2 j⟩
theorem Ad.add1 (h:Ad B w W rb K lp sv hv mv see had mine b s)(ho:W'.ownsRow B 9 1 v' (had.length+1) (had.map .string++[.string nm]))(g:W.grownBy W' hv.ownBlock)(ht:∀ k,hv.ownBlock=some k→k≠w.heap.size):Ad B w (W'.setCell ⟨rb,8,none⟩ v') rb K lp sv v' mv see (had++[nm]) mine b s:=by
 have hne:∀ k,v'.ownBlock=some k→k≠rb:=fun k hk e=>by
  obtain⟨-,cur,fr,h2⟩:=qbo ho k hk
  have h3:=qa9 h.bx h.oh (by decide) g
  rw[e,h3.1] at h2
  injection h2 with h2
  injection h2 with _ h2 _
  exact absurd h2 (by decide)
 have hbx:=qa9 h.bx h.oh (by decide) g
 have hos:=own_otherD h.os h.oh (by decide) g
 have hom:=own_otherD h.om h.oh (by decide) g
 have nr:∀ {e sz n:Nat} {v:Value} {cs:List Value},W'.ownsRow B e sz v n cs→67≠e→∀ q,v.ownBlock=some q→q≠rb:=fun hq he k hk e=>by
  obtain⟨-,cur,fr,h2⟩:=qbo hq k hk
  rw[e,hbx.1] at h2
  injection h2 with h2
  injection h2 with _ h2 _
  exact he h2
 refine⟨?_,qbc hos (nr hos (by decide)),?_,qbc hom (nr hom (by decide)),?_,?_,h.hB,h.hr,?_⟩
 ·have:=hbx.set (j:=8) (u:=v')
  simpa [Rk.cs] using this
 ·have:=qbc (u:=v') (j:=8) ho hne
  simpa using this
 ·exact (box_grown h.bt g (fun e=>ht _ e.symm rfl)).other (Ne.symm h.rne)
 ·exact (h.wr.trans (Wr.row h.oh g h.le (.inr (.inl rfl)))).trans (Wr.setCell _ _ h.hB)
 ·simpa using Nat.le_trans h.le g.size
theorem Ad.add2 (h:Ad B w W rb K lp sv hv mv see had mine b s)(ho:W'.ownsRow B 34 2 v' (mine.length+1) (mine.flatMap mtC++[.int .i64 b,.bool s]))(g:W.grownBy W' mv.ownBlock)(ht:∀ k,mv.ownBlock=some k→k≠w.heap.size):Ad B w (W'.setCell ⟨rb,9,none⟩ v') rb K lp sv hv v' see had (mine++[(b,s)]) b s:=by
 have hne:∀ k,v'.ownBlock=some k→k≠rb:=fun k hk e=>by
  obtain⟨-,cur,fr,h2⟩:=qbo ho k hk
  have h3:=qa9 h.bx h.om (by decide) g
  rw[e,h3.1] at h2
  injection h2 with h2
  injection h2 with _ h2 _
  exact absurd h2 (by decide)
 have hbx:=qa9 h.bx h.om (by decide) g
 have hos:=own_otherD h.os h.om (by decide) g
 have hoh:=own_otherD h.oh h.om (by decide) g
 have nr:∀ {e sz n:Nat} {v:Value} {cs:List Value},W'.ownsRow B e sz v n cs→67≠e→∀ q,v.ownBlock=some q→q≠rb:=fun hq he k hk e=>by
  obtain⟨-,cur,fr,h2⟩:=qbo hq k hk
  rw[e,hbx.1] at h2
  injection h2 with h2
  injection h2 with _ h2 _
  exact he h2
 refine⟨?_,qbc hos (nr hos (by decide)),qbc hoh (nr hoh (by decide)),?_,?_,?_,h.hB,h.hr,?_⟩
 ·have:=hbx.set (j:=9) (u:=v')
  simpa [Rk.cs] using this
 ·have:=qbc (u:=v') (j:=9) ho hne
  simpa [mtC] using this
 ·exact (box_grown h.bt g (fun e=>ht _ e.symm rfl)).other (Ne.symm h.rne)
 ·exact (h.wr.trans (Wr.row h.om g h.le (.inr (.inr rfl)))).trans (Wr.setCell _ _ h.hB)
 ·simpa using Nat.le_trans h.le g.size
theorem Ad.add3 (h:Ad B w W rb K lp sv hv mv see had mine b s)(ho:W'.ownsRow B 138 5 v' (see.length+1) (see.flatMap seC++[.string nm,.int .i64 b,.bool s,.int .i64 0,.bool false]))(g:W.grownBy W' sv.ownBlock)(ht:∀ k,sv.ownBlock=some k→k≠w.heap.size):Ad B w (W'.setCell ⟨rb,7,none⟩ v') rb K lp v' hv mv (see++[⟨nm,b,s⟩]) had mine b s:=by
 have hne:∀ k,v'.ownBlock=some k→k≠rb:=fun k hk e=>by
  obtain⟨-,cur,fr,h2⟩:=qbo ho k hk
  have h3:=qa9 h.bx h.os (by decide) g
  rw[e,h3.1] at h2
  injection h2 with h2
  injection h2 with _ h2 _
  exact absurd h2 (by decide)
 have hbx:=qa9 h.bx h.os (by decide) g
 have hoh:=own_otherD h.oh h.os (by decide) g
 have hom:=own_otherD h.om h.os (by decide) g
 have nr:∀ {e sz n:Nat} {v:Value} {cs:List Value},W'.ownsRow B e sz v n cs→67≠e→∀ q,v.ownBlock=some q→q≠rb:=fun hq he k hk e=>by
  obtain⟨-,cur,fr,h2⟩:=qbo hq k hk
  rw[e,hbx.1] at h2
  injection h2 with h2
  injection h2 with _ h2 _
  exact he h2
 refine⟨?_,?_,qbc hoh (nr hoh (by decide)),qbc hom (nr hom (by decide)),?_,?_,h.hB,h.hr,?_⟩
 ·have:=hbx.set (j:=7) (u:=v')
  simpa [Rk.cs] using this
 ·have:=qbc (u:=v') (j:=7) ho hne
  simpa [seC] using this
 ·exact (box_grown h.bt g (fun e=>ht _ e.symm rfl)).other (Ne.symm h.rne)
 ·exact (h.wr.trans (Wr.row h.os g h.le (.inl rfl))).trans (Wr.setCell _ _ h.hB)
 ·simpa using Nat.le_trans h.le g.size
end
theorem radd9_any (B:Nat)(w:World)(rb:Nat)(K:Rk)(L:Loc)(lp:Nat)(h:Rm B w rb K L lp)(b:Int)(s:Bool)(nm:ByteArray)(hn:nm.size≤maxLen)(hfr:L.fr≤1000000)(hb:IsW b) :
  Calls Tryz.prog 43 #[.pointer (some ⟨rb,0,none⟩),.agg #[.int .i64 b,.bool s],.string nm] w fun e w'=>e=.returned (.bool (!(L.m nm).isSome))∧Rm B w' rb K (declC L b s nm).2 lp∧Wr B rb w w':=by
 obtain⟨sv,hv,mv,see,had,mine,h1,h2,h3,h4,hr,hl1,hl2,hl3⟩:=h.has
 have k0:=qaa w (.cells #[.int .i64 b,.bool s] 34)
 have D0:=zH (show Ad B w (w.alloc (.cells #[.int .i64 b,.bool s] 34)) rb K lp sv hv mv see had mine b s from⟨h1.step k0,qay h2 k0,qay h3 k0,qay h4 k0,Box.new w _ _,Wr.of k0 h.le,h.hB,h.lt,Nat.le_trans h.le k0.size⟩)
 have TB:=zH (show (∀ k,hv.ownBlock=some k→k≠w.heap.size)∧(∀ k,mv.ownBlock=some k→k≠w.heap.size)∧(∀ k,sv.ownBlock=some k→k≠w.heap.size) from⟨fun k e=>Nat.ne_of_lt (h3.lt k e).2,fun k e=>Nat.ne_of_lt (h4.lt k e).2,fun k e=>Nat.ne_of_lt (h2.lt k e).2⟩)
 have hlen:see.length≤1000000∧had.length≤1000000∧mine.length≤1000000:=by
  have:=wdsS_ge mine
  rw[hr.fr] at hfr
  omega
 have HL:=zH hlen
 have HIB:=zH hb
 have HR:=zH hr
 have HPG:=zH h.pg
 have HX:=zH (And.intro hl1 (And.intro hl2 hl3))
 have hhv:=hr.isSome nm
 rw[hhv]
 have HD:=zH hhv
 have CI:=zH (in9_any had hv nm (w.alloc (.cells #[.int .i64 b,.bool s] 34)) (Lies.owned (uI D0).oh))
 clear h1 h2 h3 h4 hr hl1 hl2 hl3 hfr hlen hhv h k0 hb
 have a8:=zC (uI D0).bx 8 _ rfl
 have hrb:=(uI D0).bx.lt
 obtain⟨va,vc,rfl⟩:∃ a c,hv=.slice a had.length c:=qaj (uI D0).oh
 go_enter Tryz.func43,Tryz.ntmps43
 go_wp2_with fail
 generalize w.alloc (.cells #[.int .i64 b,.bool s] 34)=W0 at *
 refine (uI CI).mono ?_
 rintro e w1 ⟨rfl,rfl⟩
 clear CI
 cases hh:hasB had nm
 rotate_left
 ·have HS:=zH (show (L.m nm).isSome=true from (uI HD).trans hh)
  have HB:=zH hh
  clear hh
  go_wp2_with fail
  go_ret
  have e2:(declC L b s nm).2=L:=by unfold declC;rw[if_pos (uI HS)]
  rw[e2]
  exact⟨by rw[uI HB];rfl,⟨⟨_,_,_,_,_,_,(uI D0).bx,(uI D0).os,(uI D0).oh,(uI D0).om,uI HR,uI HX⟩,(uI HPG).step (uI D0).wr.below,(uI D0).hB⟩,(uI D0).wr⟩
 have HH:=zH hh
 clear hh
 obtain⟨i0,hi0,hz0,hz1,hz2⟩:=qbb infoStrC
 have BN:=zH (Box.new w1 #[.string nm] 9)
 have D1:=zH ((uI D0).step (qaa w1 (.cells #[.string nm] 9)))
 go_wp2_with (at_builtin;refine qav rfl (.tmp 17) (.tmp 19) 52 rfl B 9 i0 _ 1 16 Tryz.underlying52 hi0 hz0 hz1 hz2 rfl (by decide) _ _ _ rfl (uI D1).oh _ 1 [.string nm] rfl (lies_one1 (uI BN)) (by intro u hu;simp at hu;subst hu;rfl) (by have:=uI HL;unfold maxLen;omega) (by have:=uI HL;omega) (uI D1).le ?_;intro v' w2 o2 g2;obtain⟨va',vc',rfl⟩:=qaj o2;have D2:=zH ((uI D1).add1 o2 g2 (uI TB).1);have hrb2:=Nat.lt_of_lt_of_le (uI D1).bx.lt g2.size;have hsf:=(qa9 (uI D1).bx (uI D1).oh (by decide) g2).box.2.2;have hc8:=(qa9 (uI D1).bx (uI D1).oh (by decide) g2).box.2.1 8 _ rfl;clear o2 g2)
 clear hrb2 hsf hc8 hrb a8 BN D1 D0
 generalize w2.setCell ⟨rb,8,none⟩ (.slice va' (had.length+1) vc')=W2 at *
 obtain⟨ma,mc,rfl⟩:∃ a c,mv=.slice a mine.length c:=qaj (uI D2).om
 obtain⟨sa,sc,rfl⟩:∃ a c,sv=.slice a see.length c:=qaj (uI D2).os
 obtain⟨i1,hj0,hy0,hy1,hy2⟩:=qbb infoTy9
 have CL:=zH (fun (W:World) (h:Box W w.heap.size [.int .i64 b,.bool s])=>(⟨h.2.1 0 _ rfl,h.2.1 1 _ rfl⟩:W.cell? ⟨w.heap.size,0,none⟩=some (.int .i64 b)∧W.cell? ⟨w.heap.size,1,none⟩=some (.bool s)))
 refine zU (fun W=>W.cell? ⟨w.heap.size,0,none⟩=some (.int .i64 b)∧W.cell? ⟨w.heap.size,1,none⟩=some (.bool s)) (by kernel_rfl) ?_
 have D3:=zH ((uI D2).step (Below.refl _ _).drew)
 clear D2
 generalize W2.drew=W3 at *
 refine qR 0 4 7 ?_
 simp only[zTD]
 repeat (refine zS (fun K hK=>?_);go_simp;first|(refine zQ ?_ (fun W hW=>?_) (hK _ ?_);rotate_left;(obtain⟨d0,d1⟩:=hW;go_simp;first|done|rfl);clear hK K)|(refine hK _ ?_;clear hK K))
 refine zO ?_
 refine qR 5 1 6 ?_
 simp only[zTD]
 repeat (refine zS (fun K hK=>?_);go_simp;first|(refine zQ ?_ (fun W hW=>?_) (hK _ ?_);rotate_left;(obtain⟨d0,d1⟩:=hW;go_simp;first|done|rfl);clear hK K)|(refine hK _ ?_;clear hK K))
 refine zO ?_
 have D4:=zH ((uI D3).step (qaa W3 (.cells #[.int .i64 b,.bool s] 34)))
 have BN:=zH (Box.new W3 #[.int .i64 b,.bool s] 34)
 refine qbv 4 6 5 (by kernel_rfl) (by kernel_rfl) (uI CL _ (uI D3).bt) ?_ ?_
 all_goals simp only[zTD]
 ·have a9:=zC (uI D3).bx 9 _ rfl
  have hrb:=(uI D3).bx.lt
  go_wp2_with fail
  first|refine zN ?_|refine zG ?_
  refine qO 6 4 (uI CL _ (uI D3).bt) ?_
  simp only[zTD]
  go_wp2_with fail
  first|refine zN ?_|refine zG ?_
  clear a9 hrb
  refine qO 7 3 (uI CL _ (uI D4).bt) ?_
  simp only[zTD]
  go_wp2_with (at_builtin;refine qav rfl (.tmp 27) (.tmp 29) 65 rfl B 34 i1 (.agg #[.int .i64 0,.bool false]) 2 16 Tryz.underlying65 hj0 hy0 hy1 hy2 rfl (by decide) _ _ _ rfl (uI D4).om _ 1 [.int .i64 b,.bool s] rfl (lies_one2 (uI BN)) (by intro u hu;simp only[List.mem_cons,List.not_mem_nil,or_false] at hu;rcases hu with rfl|rfl <;> rfl) (by have:=uI HL;unfold maxLen;omega) (by have:=uI HL;omega) (uI D4).le ?_;intro v5 w5 o5 g5;obtain⟨va5,vc5,rfl⟩:=qaj o5;have D6:=zH ((uI D4).add2 o5 g5 (uI TB).2.1);have HRB:=zH (Nat.lt_of_lt_of_le (uI D4).bx.lt g5.size);have HSF:=zH (qa9 (uI D4).bx (uI D4).om (by decide) g5);have BT5:=zH (box_grown (uI D4).bt g5 (fun e=>(uI TB).2.1 _ e.symm rfl));clear o5 g5)
  first|refine zN ?_|refine zG ?_
  refine qR 8 2 1 ?_
  simp only[zTD]
  repeat (refine zS (fun K hK=>?_);go_simp;first|(refine zQ ?_ (fun W hW=>?_) (hK _ ?_);rotate_left;(obtain⟨d0,d1⟩:=hW;go_simp;first|done|rfl);clear hK K)|(refine hK _ ?_;clear hK K))
  refine zO ?_
  have hrb:=uI HRB
  have hsf:=(uI HSF).box.2.2
  have hcf:=(uI HSF).box.2.1 9 _ rfl
  refine qO 10 0 (uI CL _ (uI BT5)) ?_
  simp only[zTD]
  go_wp2_with fail
  first|refine zN ?_|refine zG ?_
  clear hrb hsf hcf HRB HSF BT5 D4 BN D3
  generalize w5.setCell ⟨rb,9,none⟩ (.slice va5 (mine.length+1) vc5)=W6 at *
  refine zE (by kernel_rfl) (uI CL _ (uI D6).bt) ?_
  clear CL
  obtain⟨i2,hk0,hw0,hw1,hw2⟩:=qbb infoSe9
  go_wp2_with fail
  have CL:=zH (fun (W:World) (h:Box W w.heap.size [.int .i64 b,.bool s])=>(⟨h.2.1 0 _ rfl,h.2.1 1 _ rfl⟩:W.cell? ⟨w.heap.size,0,none⟩=some (.int .i64 b)∧W.cell? ⟨w.heap.size,1,none⟩=some (.bool s)))
  refine zU (fun W=>W.cell? ⟨w.heap.size,0,none⟩=some (.int .i64 b)∧W.cell? ⟨w.heap.size,1,none⟩=some (.bool s)) (by kernel_rfl) ?_
  have D3:=zH ((uI D6).step (Below.refl _ _).drew)
  clear D6
  generalize W6.drew=W3 at *
  refine qR 0 4 9 ?_
  simp only[zTD]
  repeat (refine zS (fun K hK=>?_);go_simp;first|(refine zQ ?_ (fun W hW=>?_) (hK _ ?_);rotate_left;(obtain⟨d0,d1⟩:=hW;go_simp;first|done|rfl);clear hK K)|(refine hK _ ?_;clear hK K))
  refine zO ?_
  refine qR 5 3 6 ?_
  simp only[zTD]
  repeat (refine zS (fun K hK=>?_);go_simp;first|(refine zQ ?_ (fun W hW=>?_) (hK _ ?_);rotate_left;(obtain⟨d0,d1⟩:=hW;go_simp;first|done|rfl);clear hK K)|(refine hK _ ?_;clear hK K))
  refine zO ?_
  have D4:=zH ((uI D3).step (qaa W3 (.cells #[.string nm,.int .i64 b,.bool s,.int .i64 0,.bool false] 138)))
  have BN:=zH (Box.new W3 #[.string nm,.int .i64 b,.bool s,.int .i64 0,.bool false] 138)
  refine qbv 4 8 5 (by kernel_rfl) (by kernel_rfl) (uI CL _ (uI D3).bt) ?_ ?_
  all_goals simp only[zTD]
  ·have a9:=zC (uI D3).bx 7 _ rfl
   have hrb:=(uI D3).bx.lt
   go_wp2_with fail
   first|refine zN ?_|refine zG ?_
   refine qO 8 4 (uI CL _ (uI D3).bt) ?_
   simp only[zTD]
   go_wp2_with fail
   first|refine zN ?_|refine zG ?_
   clear a9 hrb
   refine qO 9 3 (uI CL _ (uI D4).bt) ?_
   simp only[zTD]
   go_wp2_with (at_builtin;refine qav rfl (.tmp 37) (.tmp 41) 64 rfl B 138 i2 (.agg #[.string ⟨#[]⟩,.int .i64 0,.bool false,.int .i64 0,.bool false]) 5 48 Tryz.underlying64 hk0 hw0 hw1 hw2 rfl (by decide) _ _ _ rfl (uI D4).os _ 1 [.string nm,.int .i64 b,.bool s,.int .i64 0,.bool false] rfl (lies_one5 (uI BN)) (by intro u hu;simp only[List.mem_cons,List.not_mem_nil,or_false] at hu;rcases hu with rfl|rfl|rfl|rfl|rfl <;> rfl) (by have:=uI HL;unfold maxLen;omega) (by have:=uI HL;omega) (uI D4).le ?_;intro v5 w5 o5 g5;obtain⟨va5,vc5,rfl⟩:=qaj o5;have D6:=zH ((uI D4).add3 o5 g5 (uI TB).2.2);have HRB:=zH (Nat.lt_of_lt_of_le (uI D4).bx.lt g5.size);have HSF:=zH (qa9 (uI D4).bx (uI D4).os (by decide) g5);have BT5:=zH (box_grown (uI D4).bt g5 (fun e=>(uI TB).2.2 _ e.symm rfl));clear o5 g5)
   first|refine zN ?_|refine zG ?_
   refine qR 10 2 1 ?_
   simp only[zTD]
   repeat (refine zS (fun K hK=>?_);go_simp;first|(refine zQ ?_ (fun W hW=>?_) (hK _ ?_);rotate_left;(obtain⟨d0,d1⟩:=hW;go_simp;first|done|rfl);clear hK K)|(refine hK _ ?_;clear hK K))
   refine zO ?_
   have hrb:=uI HRB
   have hsf:=(uI HSF).box.2.2
   have hcf:=(uI HSF).box.2.1 7 _ rfl
   refine qO 12 0 (uI CL _ (uI BT5)) ?_
   simp only[zTD]
   go_wp2_with fail
   first|refine zN ?_|refine zG ?_
   clear hrb hsf hcf HRB HSF BT5 D4 BN D3
   generalize w5.setCell ⟨rb,7,none⟩ (.slice va5 (see.length+1) vc5)=W6 at *
   refine zE (by kernel_rfl) (uI CL _ (uI D6).bt) ?_
   clear CL
   go_wp2_with fail
   go_ret
   have Z:=uI D6
   have X:=uI HX
   exact⟨by rw[uI HH];rfl,⟨⟨_,_,_,_,_,_,Z.bx,by simpa using Z.os,by simpa using Z.oh,by simpa using Z.om,(uI HR).add b s nm (uI HH) (uI HIB),by simp[X.1],by simpa using X.2.1,fun k hk=>by rcases List.mem_append.1 hk with hk|hk;exact X.2.2 k hk;rw[List.mem_singleton.1 hk];exact hn⟩,(uI HPG).step Z.wr.below,Z.hB⟩,Z.wr⟩
  ·go_wp2_with fail
   first|refine zN ?_|refine zG ?_
   have a9:=zC (uI D4).bx 7 _ rfl
   have hrb:=(uI D4).bx.lt
   refine qO 4 4 (uI CL _ (uI D4).bt) ?_
   simp only[zTD]
   go_wp2_with fail
   first|refine zN ?_|refine zG ?_
   clear a9 hrb
   refine qO 9 3 (uI CL _ (uI D4).bt) ?_
   simp only[zTD]
   go_wp2_with (at_builtin;refine qav rfl (.tmp 37) (.tmp 41) 64 rfl B 138 i2 (.agg #[.string ⟨#[]⟩,.int .i64 0,.bool false,.int .i64 0,.bool false]) 5 48 Tryz.underlying64 hk0 hw0 hw1 hw2 rfl (by decide) _ _ _ rfl (uI D4).os _ 1 [.string nm,.int .i64 b,.bool s,.int .i64 0,.bool false] rfl (lies_one5 (uI BN)) (by intro u hu;simp only[List.mem_cons,List.not_mem_nil,or_false] at hu;rcases hu with rfl|rfl|rfl|rfl|rfl <;> rfl) (by have:=uI HL;unfold maxLen;omega) (by have:=uI HL;omega) (uI D4).le ?_;intro v5 w5 o5 g5;obtain⟨va5,vc5,rfl⟩:=qaj o5;have D6:=zH ((uI D4).add3 o5 g5 (uI TB).2.2);have HRB:=zH (Nat.lt_of_lt_of_le (uI D4).bx.lt g5.size);have HSF:=zH (qa9 (uI D4).bx (uI D4).os (by decide) g5);have BT5:=zH (box_grown (uI D4).bt g5 (fun e=>(uI TB).2.2 _ e.symm rfl));clear o5 g5)
   first|refine zN ?_|refine zG ?_
   refine qR 10 2 1 ?_
   simp only[zTD]
   repeat (refine zS (fun K hK=>?_);go_simp;first|(refine zQ ?_ (fun W hW=>?_) (hK _ ?_);rotate_left;(obtain⟨d0,d1⟩:=hW;go_simp;first|done|rfl);clear hK K)|(refine hK _ ?_;clear hK K))
   refine zO ?_
   have hrb:=uI HRB
   have hsf:=(uI HSF).box.2.2
   have hcf:=(uI HSF).box.2.1 7 _ rfl
   refine qO 12 0 (uI CL _ (uI BT5)) ?_
   simp only[zTD]
   go_wp2_with fail
   first|refine zN ?_|refine zG ?_
   clear hrb hsf hcf HRB HSF BT5 D4 BN D3
   generalize w5.setCell ⟨rb,7,none⟩ (.slice va5 (see.length+1) vc5)=W6 at *
   refine zE (by kernel_rfl) (uI CL _ (uI D6).bt) ?_
   clear CL
   go_wp2_with fail
   go_ret
   have Z:=uI D6
   have X:=uI HX
   exact⟨by rw[uI HH];rfl,⟨⟨_,_,_,_,_,_,Z.bx,by simpa using Z.os,by simpa using Z.oh,by simpa using Z.om,(uI HR).add b s nm (uI HH) (uI HIB),by simp[X.1],by simpa using X.2.1,fun k hk=>by rcases List.mem_append.1 hk with hk|hk;exact X.2.2 k hk;rw[List.mem_singleton.1 hk];exact hn⟩,(uI HPG).step Z.wr.below,Z.hB⟩,Z.wr⟩
 ·go_wp2_with fail
  first|refine zN ?_|refine zG ?_
  have a9:=zC (uI D4).bx 9 _ rfl
  have hrb:=(uI D4).bx.lt
  refine qO 4 4 (uI CL _ (uI D4).bt) ?_
  simp only[zTD]
  go_wp2_with fail
  first|refine zN ?_|refine zG ?_
  clear a9 hrb
  refine qO 7 3 (uI CL _ (uI D4).bt) ?_
  simp only[zTD]
  go_wp2_with (at_builtin;refine qav rfl (.tmp 27) (.tmp 29) 65 rfl B 34 i1 (.agg #[.int .i64 0,.bool false]) 2 16 Tryz.underlying65 hj0 hy0 hy1 hy2 rfl (by decide) _ _ _ rfl (uI D4).om _ 1 [.int .i64 b,.bool s] rfl (lies_one2 (uI BN)) (by intro u hu;simp only[List.mem_cons,List.not_mem_nil,or_false] at hu;rcases hu with rfl|rfl <;> rfl) (by have:=uI HL;unfold maxLen;omega) (by have:=uI HL;omega) (uI D4).le ?_;intro v5 w5 o5 g5;obtain⟨va5,vc5,rfl⟩:=qaj o5;have D6:=zH ((uI D4).add2 o5 g5 (uI TB).2.1);have HRB:=zH (Nat.lt_of_lt_of_le (uI D4).bx.lt g5.size);have HSF:=zH (qa9 (uI D4).bx (uI D4).om (by decide) g5);have BT5:=zH (box_grown (uI D4).bt g5 (fun e=>(uI TB).2.1 _ e.symm rfl));clear o5 g5)
  first|refine zN ?_|refine zG ?_
  refine qR 8 2 1 ?_
  simp only[zTD]
  repeat (refine zS (fun K hK=>?_);go_simp;first|(refine zQ ?_ (fun W hW=>?_) (hK _ ?_);rotate_left;(obtain⟨d0,d1⟩:=hW;go_simp;first|done|rfl);clear hK K)|(refine hK _ ?_;clear hK K))
  refine zO ?_
  have hrb:=uI HRB
  have hsf:=(uI HSF).box.2.2
  have hcf:=(uI HSF).box.2.1 9 _ rfl
  refine qO 10 0 (uI CL _ (uI BT5)) ?_
  simp only[zTD]
  go_wp2_with fail
  first|refine zN ?_|refine zG ?_
  clear hrb hsf hcf HRB HSF BT5 D4 BN D3
  generalize w5.setCell ⟨rb,9,none⟩ (.slice va5 (mine.length+1) vc5)=W6 at *
  refine zE (by kernel_rfl) (uI CL _ (uI D6).bt) ?_
  clear CL
  obtain⟨i2,hk0,hw0,hw1,hw2⟩:=qbb infoSe9
  go_wp2_with fail
  have CL:=zH (fun (W:World) (h:Box W w.heap.size [.int .i64 b,.bool s])=>(⟨h.2.1 0 _ rfl,h.2.1 1 _ rfl⟩:W.cell? ⟨w.heap.size,0,none⟩=some (.int .i64 b)∧W.cell? ⟨w.heap.size,1,none⟩=some (.bool s)))
  refine zU (fun W=>W.cell? ⟨w.heap.size,0,none⟩=some (.int .i64 b)∧W.cell? ⟨w.heap.size,1,none⟩=some (.bool s)) (by kernel_rfl) ?_
  have D3:=zH ((uI D6).step (Below.refl _ _).drew)
  clear D6
  generalize W6.drew=W3 at *
  refine qR 0 4 9 ?_
  simp only[zTD]
  repeat (refine zS (fun K hK=>?_);go_simp;first|(refine zQ ?_ (fun W hW=>?_) (hK _ ?_);rotate_left;(obtain⟨d0,d1⟩:=hW;go_simp;first|done|rfl);clear hK K)|(refine hK _ ?_;clear hK K))
  refine zO ?_
  refine qR 5 3 6 ?_
  simp only[zTD]
  repeat (refine zS (fun K hK=>?_);go_simp;first|(refine zQ ?_ (fun W hW=>?_) (hK _ ?_);rotate_left;(obtain⟨d0,d1⟩:=hW;go_simp;first|done|rfl);clear hK K)|(refine hK _ ?_;clear hK K))
  refine zO ?_
  have D4:=zH ((uI D3).step (qaa W3 (.cells #[.string nm,.int .i64 b,.bool s,.int .i64 0,.bool false] 138)))
  have BN:=zH (Box.new W3 #[.string nm,.int .i64 b,.bool s,.int .i64 0,.bool false] 138)
  refine qbv 4 8 5 (by kernel_rfl) (by kernel_rfl) (uI CL _ (uI D3).bt) ?_ ?_
  all_goals simp only[zTD]
  ·have a9:=zC (uI D3).bx 7 _ rfl
   have hrb:=(uI D3).bx.lt
   go_wp2_with fail
   first|refine zN ?_|refine zG ?_
   refine qO 8 4 (uI CL _ (uI D3).bt) ?_
   simp only[zTD]
   go_wp2_with fail
   first|refine zN ?_|refine zG ?_
   clear a9 hrb
   refine qO 9 3 (uI CL _ (uI D4).bt) ?_
   simp only[zTD]
   go_wp2_with (at_builtin;refine qav rfl (.tmp 37) (.tmp 41) 64 rfl B 138 i2 (.agg #[.string ⟨#[]⟩,.int .i64 0,.bool false,.int .i64 0,.bool false]) 5 48 Tryz.underlying64 hk0 hw0 hw1 hw2 rfl (by decide) _ _ _ rfl (uI D4).os _ 1 [.string nm,.int .i64 b,.bool s,.int .i64 0,.bool false] rfl (lies_one5 (uI BN)) (by intro u hu;simp only[List.mem_cons,List.not_mem_nil,or_false] at hu;rcases hu with rfl|rfl|rfl|rfl|rfl <;> rfl) (by have:=uI HL;unfold maxLen;omega) (by have:=uI HL;omega) (uI D4).le ?_;intro v5 w5 o5 g5;obtain⟨va5,vc5,rfl⟩:=qaj o5;have D6:=zH ((uI D4).add3 o5 g5 (uI TB).2.2);have HRB:=zH (Nat.lt_of_lt_of_le (uI D4).bx.lt g5.size);have HSF:=zH (qa9 (uI D4).bx (uI D4).os (by decide) g5);have BT5:=zH (box_grown (uI D4).bt g5 (fun e=>(uI TB).2.2 _ e.symm rfl));clear o5 g5)
   first|refine zN ?_|refine zG ?_
   refine qR 10 2 1 ?_
   simp only[zTD]
   repeat (refine zS (fun K hK=>?_);go_simp;first|(refine zQ ?_ (fun W hW=>?_) (hK _ ?_);rotate_left;(obtain⟨d0,d1⟩:=hW;go_simp;first|done|rfl);clear hK K)|(refine hK _ ?_;clear hK K))
   refine zO ?_
   have hrb:=uI HRB
   have hsf:=(uI HSF).box.2.2
   have hcf:=(uI HSF).box.2.1 7 _ rfl
   refine qO 12 0 (uI CL _ (uI BT5)) ?_
   simp only[zTD]
   go_wp2_with fail
   first|refine zN ?_|refine zG ?_
   clear hrb hsf hcf HRB HSF BT5 D4 BN D3
   generalize w5.setCell ⟨rb,7,none⟩ (.slice va5 (see.length+1) vc5)=W6 at *
   refine zE (by kernel_rfl) (uI CL _ (uI D6).bt) ?_
   clear CL
   go_wp2_with fail
   go_ret
   have Z:=uI D6
   have X:=uI HX
   exact⟨by rw[uI HH];rfl,⟨⟨_,_,_,_,_,_,Z.bx,by simpa using Z.os,by simpa using Z.oh,by simpa using Z.om,(uI HR).add b s nm (uI HH) (uI HIB),by simp[X.1],by simpa using X.2.1,fun k hk=>by rcases List.mem_append.1 hk with hk|hk;exact X.2.2 k hk;rw[List.mem_singleton.1 hk];exact hn⟩,(uI HPG).step Z.wr.below,Z.hB⟩,Z.wr⟩
  ·go_wp2_with fail
   first|refine zN ?_|refine zG ?_
   have a9:=zC (uI D4).bx 7 _ rfl
   have hrb:=(uI D4).bx.lt
   refine qO 4 4 (uI CL _ (uI D4).bt) ?_
   simp only[zTD]
   go_wp2_with fail
   first|refine zN ?_|refine zG ?_
   clear a9 hrb
   refine qO 9 3 (uI CL _ (uI D4).bt) ?_
   simp only[zTD]
   go_wp2_with (at_builtin;refine qav rfl (.tmp 37) (.tmp 41) 64 rfl B 138 i2 (.agg #[.string ⟨#[]⟩,.int .i64 0,.bool false,.int .i64 0,.bool false]) 5 48 Tryz.underlying64 hk0 hw0 hw1 hw2 rfl (by decide) _ _ _ rfl (uI D4).os _ 1 [.string nm,.int .i64 b,.bool s,.int .i64 0,.bool false] rfl (lies_one5 (uI BN)) (by intro u hu;simp only[List.mem_cons,List.not_mem_nil,or_false] at hu;rcases hu with rfl|rfl|rfl|rfl|rfl <;> rfl) (by have:=uI HL;unfold maxLen;omega) (by have:=uI HL;omega) (uI D4).le ?_;intro v5 w5 o5 g5;obtain⟨va5,vc5,rfl⟩:=qaj o5;have D6:=zH ((uI D4).add3 o5 g5 (uI TB).2.2);have HRB:=zH (Nat.lt_of_lt_of_le (uI D4).bx.lt g5.size);have HSF:=zH (qa9 (uI D4).bx (uI D4).os (by decide) g5);have BT5:=zH (box_grown (uI D4).bt g5 (fun e=>(uI TB).2.2 _ e.symm rfl));clear o5 g5)
   first|refine zN ?_|refine zG ?_
   refine qR 10 2 1 ?_
   simp only[zTD]
   repeat (refine zS (fun K hK=>?_);go_simp;first|(refine zQ ?_ (fun W hW=>?_) (hK _ ?_);rotate_left;(obtain⟨d0,d1⟩:=hW;go_simp;first|done|rfl);clear hK K)|(refine hK _ ?_;clear hK K))
   refine zO ?_
   have hrb:=uI HRB
   have hsf:=(uI HSF).box.2.2
   have hcf:=(uI HSF).box.2.1 7 _ rfl
   refine qO 12 0 (uI CL _ (uI BT5)) ?_
   simp only[zTD]
   go_wp2_with fail
   first|refine zN ?_|refine zG ?_
   clear hrb hsf hcf HRB HSF BT5 D4 BN D3
   generalize w5.setCell ⟨rb,7,none⟩ (.slice va5 (see.length+1) vc5)=W6 at *
   refine zE (by kernel_rfl) (uI CL _ (uI D6).bt) ?_
   clear CL
   go_wp2_with fail
   go_ret
   have Z:=uI D6
   have X:=uI HX
   exact⟨by rw[uI HH];rfl,⟨⟨_,_,_,_,_,_,Z.bx,by simpa using Z.os,by simpa using Z.oh,by simpa using Z.om,(uI HR).add b s nm (uI HH) (uI HIB),by simp[X.1],by simpa using X.2.1,fun k hk=>by rcases List.mem_append.1 hk with hk|hk;exact X.2.2 k hk;rw[List.mem_singleton.1 hk];exact hn⟩,(uI HPG).step Z.wr.below,Z.hB⟩,Z.wr⟩
end Go.Proofs.YtjpnnmkefaodoaaGreat
