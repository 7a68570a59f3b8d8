/-
  ClE, ClF.
-/
import Derived.Test.YtjpnnmkefaodoaaGreatyClAy
set_option maxHeartbeats 8000000
set_option maxRecDepth 100000
namespace Go.Proofs.YtjpnnmkefaodoaaGreat
open Go.RowKit Go.Maps Go.Great
set_option linter.unusedSimpArgs false
set_option linter.unusedVariables false
def cnW (l:List Ex):Int:=(cnEs l).2
theorem cnW_cons (x:Ex)(xs:List Ex):cnW (x::xs)=if (cnE x).2.2.2≠0 then (cnE x).2.2.2 else cnW xs:=by
 unfold cnW
 rw[cnEs_cons]
 split
 ·rfl
 ·split
  ·rfl
  ·rename_i h1 h2
   simpa using Eq.symm (by simpa using h2)
def AvR (H:Nat)(w0:World)(nb vb fb nv nf:Nat)(E:Nev)(g:Gb)(R X:Int)(e:Ending)(w':World):Prop:=e=.returned (.int .i64 R)∧Below H w0 w'∧(R=0→Ng H w0 w' nb vb fb (nv+1) nf (E.addV g) X)
theorem addV_no {H:Nat}{w0 w:World}{nb vb fb nv nf:Nat}{E:Nev}{wd:Int}(h:Ng H w0 w nb vb fb nv nf E wd)(g:Gb)(kv:Value)(hn:g.nm.size≤maxLen)(ht:E.taken g.nm=true)(X:Int) :
  Calls Tryz.prog 11 #[.pointer (some ⟨nb,0,none⟩),.agg #[.int .i64 g.b,.bool g.s,.string g.nm,.int .i64 g.size,kv]] w fun e w'=>AvR H w0 nb vb fb nv nf E g 7 X e w':=by
 have ka:=qaa w (.cells #[.int .i64 g.b,.bool g.s,.string g.nm,.int .i64 g.size,kv] 37)
 have S:=zH (h.step ka)
 have CT:=taken_any (h.step ka) g.nm hn
 rw[ht] at CT
 have CT:=zH CT
 clear h ka ht
 go_enter Tryz.func11,Tryz.ntmps11
 go_wp2_with fail
 refine (uI CT).mono ?_
 rintro e w1 ⟨rfl,k1⟩
 have K:=zH ((uI S).step k1).k
 clear CT S k1
 go_wp2_with fail
 go_ret
 exact⟨rfl,uI K,fun e=>by cases e⟩
theorem addV_yes {H:Nat}{w0 w:World}{nb vb fb nv nf:Nat}{E:Nev}{wd:Int}(h:Ng H w0 w nb vb fb nv nf E wd)(g:Gb)(gd:GbG g)(ka:Option Addr)(kc:Nat)(hx:ExL H w (.slice ka g.init.length kc) g.init)(hn:g.nm.size≤maxLen)(hl:nv<maxLen)(ht:E.taken g.nm=false)(hwd:0≤wd∧wd≤8000)(X:Int)(hX:X=wd+max 1 g.size*wds g.b) :
  Calls Tryz.prog 11 #[.pointer (some ⟨nb,0,none⟩),.agg #[.int .i64 g.b,.bool g.s,.string g.nm,.int .i64 g.size,.slice ka g.init.length kc]] w fun e w'=>AvR H w0 nb vb fb nv nf E g (if 8000<X then 4 else cnW g.init) X e w':=by
 have k0:=qaa w (.cells #[.int .i64 g.b,.bool g.s,.string g.nm,.int .i64 g.size,.slice ka g.init.length kc] 37)
 have S:=zH (h.step k0)
 have BX:=zH (BoxC.new w #[.int .i64 g.b,.bool g.s,.string g.nm,.int .i64 g.size,.slice ka g.init.length kc] 37 (by decide))
 have CT:=taken_any (h.step k0) g.nm hn
 rw[ht] at CT
 have CT:=zH CT
 have HX:=zH ((hx.step (k0.mono h.le)).step (Below.refl _ _))
 have HLE:=zH (Nat.le_trans h.le k0.size)
 obtain⟨gb,gn,⟨gz1,gz2⟩,gl,ge⟩:=gd
 obtain⟨-,-,-,hmax,-⟩:=hx.at
 unfold maxLen at hmax
 have GE:=zH ge
 have HNB:=zH h.bx.lt
 have CW:=zH (fun w=>twords_any g.b g.s w gb)
 obtain⟨hq1,hq2⟩:=wds_ge g.b
 obtain⟨R,hR⟩:∃ R,R=if 8000<X then 4 else cnW g.init:=⟨_,rfl⟩
 rw[← hR]
 have HR:=zH hR
 have HXX:=zH hX
 have HQ:=zH (And.intro hq1 hq2)
 have HGZ:=zH (And.intro gz1 gz2)
 have HWD:=zH hwd
 clear h k0 ht hx gb gn gl ge hR hX hq1 hq2 gz1 gz2 hwd
 obtain⟨b,s,nm,size,init⟩:=g
 dsimp only at *
 go_enter Tryz.func11,Tryz.ntmps11
 go_wp2_with fail
 refine (uI CT).mono ?_
 rintro e w1 ⟨rfl,k1⟩
 have S1:=zH ((uI S).step k1)
 have BX1:=zH ((uI BX).step k1)
 have HX1:=zH ((uI HX).step (k1.mono (uI HLE)))
 clear CT S k1 BX HX HLE
 go_wp2_with fail
 have S2:=zH ((uI S1).step (Below.refl _ _).drew)
 have BX2:=zH ((uI BX1).step (Below.refl _ _).drew)
 have HX2:=zH ((uI HX1).step ((Below.refl _ _).drew))
 have hsb:=(uI S1).bx.lt
 clear S1 BX1 HX1
 have a0:=zC (uI S2).bx 0 _ rfl
 obtain⟨c0,c1,c2,c3,c4⟩:=qat (uI BX2).box
 refine zU (fun W=>W.cell? ⟨nb,0,none⟩=some (.map (some vb))∧W.cell? ⟨w.heap.size,0,none⟩=some (.int .i64 b)∧W.cell? ⟨w.heap.size,1,none⟩=some (.bool s)∧W.cell? ⟨w.heap.size,2,none⟩=some (.string nm)∧W.cell? ⟨w.heap.size,3,none⟩=some (.int .i64 size)) (by kernel_rfl) ?_
 generalize w1.drew=W8 at *
 have CL:=zH (show W8.cell? ⟨nb,0,none⟩=some (.map (some vb))∧W8.cell? ⟨w.heap.size,0,none⟩=some (.int .i64 b)∧W8.cell? ⟨w.heap.size,1,none⟩=some (.bool s)∧W8.cell? ⟨w.heap.size,2,none⟩=some (.string nm)∧W8.cell? ⟨w.heap.size,3,none⟩=some (.int .i64 size) from⟨a0,c0,c1,c2,c3⟩)
 clear a0 c0 c1 c2 c3 c4
 refine qR 0 12 1 ?_
 simp only[zTD]
 repeat (refine zS (fun K hK=>?_);go_simp;first|(refine zQ ?_ (fun W hW=>?_) (hK _ ?_);rotate_left;(obtain⟨d0,d1,d2,d3,d4⟩:=hW;go_simp;first|done|rfl);clear hK K)|(refine hK _ ?_;clear hK K))
 refine zO ?_
 refine qO 12 0 (uI CL) ?_
 simp only[zTD]
 go_wp2_with (at_mapUpdate;refine wpList_putVv rfl (.tmp 16) (.tmp 18) (.tmp 24) 44 77 rfl Tryz.underlying44 vb nv _ rfl (uI S2).v hl nm rfl hn (encV (b,s,decide (0<size))) rfl ?_;intro w9 m9 g9;have S9:=zH ((uI S2).addV (g:=⟨b,s,nm,size,init⟩) m9 g9);have B9:=zH ((uI BX2).grown (uI S2).v g9);have HX9:=zH ((uI HX2).step (grown_below (Below.refl _ _) (uI S2).le (uI S2).hv g9));clear m9 g9)
 first|refine zN ?_|refine zG ?_
 have b1:=zC (uI S9).bx 0 _ rfl
 obtain⟨e0,e1,e2,e3,e4⟩:=qat (uI B9).box
 refine zE (by kernel_rfl) ⟨b1,e0,e1,e2,e3⟩ ?_
 clear b1 e0 e1 e2 e3 e4 CL S2 BX2 HX2 hsb
 go_wp2_with fail
 clear CT
 have CL:=zH (fun (W:World) (D:BoxC W w.heap.size #[.int .i64 b,.bool s,.string nm,.int .i64 size,.slice ka init.length kc] 37)=>(⟨zC D 0 _ rfl,zC D 1 _ rfl,zC D 3 _ rfl⟩:W.cell? ⟨w.heap.size,0,none⟩=some (.int .i64 b)∧W.cell? ⟨w.heap.size,1,none⟩=some (.bool s)∧W.cell? ⟨w.heap.size,3,none⟩=some (.int .i64 size)))
 refine zU (fun W=>W.cell? ⟨w.heap.size,0,none⟩=some (.int .i64 b)∧W.cell? ⟨w.heap.size,1,none⟩=some (.bool s)∧W.cell? ⟨w.heap.size,3,none⟩=some (.int .i64 size)) (by kernel_rfl) ?_
 have S10:=zH ((uI S9).step (Below.refl _ _).drew)
 have B10:=zH ((uI B9).step (Below.refl _ _).drew)
 have HX10:=zH ((uI HX9).step ((Below.refl _ _).drew))
 clear S9 B9 HX9
 generalize w9.drew=W10 at *
 refine qR 0 3 12 ?_
 simp only[zTD]
 repeat (refine zS (fun K hK=>?_);go_simp;first|(refine zQ ?_ (fun W hW=>?_) (hK _ ?_);rotate_left;(obtain⟨d0,d1,d2⟩:=hW;go_simp;first|done|rfl);clear hK K)|(refine hK _ ?_;clear hK K))
 refine zO ?_
 refine qR 4 5 7 ?_
 simp only[zTD]
 repeat (refine zS (fun K hK=>?_);go_simp;first|(refine zQ ?_ (fun W hW=>?_) (hK _ ?_);rotate_left;(obtain⟨d0,d1,d2⟩:=hW;go_simp;first|done|rfl);clear hK K)|(refine hK _ ?_;clear hK K))
 refine zO ?_
 refine qbv 3 9 6 (by kernel_rfl) (by kernel_rfl) (uI CL _ (uI B10)) ?_ ?_
 all_goals simp only[zTD]
 ·have c2:=zC (uI S10).bx 2 _ rfl
  have hsb:=(uI S10).bx.lt
  go_wp2_with fail
  first|refine zN ?_|refine zG ?_
  refine qO 9 5 (uI CL _ (uI B10)) ?_
  simp only[zTD]
  go_wp2_with fail
  refine (uI CW _).mono ?_
  rintro e w13 ⟨rfl,k13⟩
  have S13:=zH ((uI S10).step k13)
  have B13:=zH ((uI B10).step k13)
  have HX13:=zH ((uI HX10).step (k13.mono (uI S10).le))
  clear c2 hsb k13 S10 B10 HX10
  go_wp2_with fail
  first|refine zN ?_|refine zG ?_
  have MQ:(1≤max 1 size∧max 1 size≤8000)∧1≤wds b∧wds b≤4:=⟨by have:=uI HGZ;omega,(uI HQ).1,(uI HQ).2⟩
  generalize max 1 size=MX at *
  generalize wds b=q at *
  have mq1:0≤MX*q:=Int.mul_nonneg (by omega) (by omega)
  have mq2:MX*q≤8000*4:=Int.mul_le_mul MQ.1.2 MQ.2.2 (by omega) (by omega)
  have hwd:=uI HWD
  refine qR 10 1 4 ?_
  simp only[zTD]
  repeat (refine zS (fun K hK=>?_);go_simp;first|(refine zQ ?_ (fun W hW=>?_) (hK _ ?_);rotate_left;(obtain⟨d0,d1,d2⟩:=hW;go_simp;first|done|rfl);clear hK K)|(refine hK _ ?_;clear hK K))
  refine zO ?_
  refine qO 11 3 (uI CL _ (uI B13)) ?_
  simp only[zTD]
  go_wp2_with fail
  first|refine zN ?_|refine zG ?_
  refine qR 12 2 1 ?_
  simp only[zTD]
  repeat (refine zS (fun K hK=>?_);go_simp;first|(refine zQ ?_ (fun W hW=>?_) (hK _ ?_);rotate_left;(obtain⟨d0,d1,d2⟩:=hW;go_simp;first|done|rfl);clear hK K)|(refine hK _ ?_;clear hK K))
  refine zO ?_
  have c2:=zC (uI S13).bx 2 _ rfl
  have hsb:=(uI S13).bx.lt
  have hsf:=(uI S13).bx.box.2.2
  refine qO 14 0 (uI CL _ (uI B13)) ?_
  simp only[zTD]
  go_wp2_with fail
  first|refine zN ?_|refine zG ?_
  clear c2 hsb hsf
  have S14:=(uI S13).store (wd+MX*q)
  have B14:=zH ((uI B13).other (b':=nb) (j:=2) (u:=.int .i64 (wd+MX*q)) (Ne.symm (Nat.ne_of_lt (uI HNB))))
  have HX14:=zH ((uI HX13).step (show Below H w13 (w13.setCell ⟨nb,2,none⟩ (.int .i64 (wd+MX*q))) from Below.setCell (Below.refl _ _) (uI S13).hn _))
  generalize w13.setCell ⟨nb,2,none⟩ (.int .i64 (wd+MX*q))=W14 at *
  rw[← uI HXX] at S14
  have S15:=zH S14
  clear S14 S13 B13 HX13
  refine zE (by kernel_rfl) (uI CL _ (uI B14)) ?_
  clear CL CW mq1 mq2 MQ hwd HXX
  have c2:=zC (uI S15).bx 2 _ rfl
  have hsb:=(uI S15).bx.lt
  obtain⟨e0,e1,e2,e3,e4⟩:=qat (uI B14).box
  have hsw:=(uI B14).lt
  by_cases h8:8000<X
  ·obtain rfl:R=4:=(uI HR).trans (if_pos h8)
   go_wp2_with fail
   go_ret
   exact⟨rfl,(uI S15).k,fun e=>by cases e⟩
  have HE0:=zH (show cnW (init.drop 0)=R from ((uI HR).trans (if_neg h8)).symm)
  clear HR
  go_wp2_with fail
  go_loopg [47] init.length (fun g t wr=>∃ (i:Nat),i≤init.length∧g=init.length - i∧t=.int .i64 (i:Int)∧Hid (Below W14.heap.size W14 wr)∧Hid (cnW (init.drop i)=R))
  case atStart=>exact⟨0,Nat.zero_le _,rfl,rfl,zH (Below.refl _ _),HE0⟩
  case round =>
   clear HE0 c2 hsb e0 e1 e2 e3 e4 hsw
   obtain⟨i,hi,hg,rfl,HC,HE⟩:=hrel
   generalize wr=V0 at *
   by_cases hlt:i<init.length
   ·have hne:init≠[]:=by intro h;rw[h] at hlt;simp at hlt
    have hxw:ExL H V0 (.slice ka init.length kc) init:=(uI HX14).step ((uI HC).mono (uI S15).le)
    obtain⟨ao',cap',e1,-,hat⟩:=hxw.at
    injection e1 with e1 _ e2
    subst e1 e2
    obtain⟨b1,o1,rfl,hb1,hbw,hc1⟩:=hat hne
    obtain⟨kv,hk,hf,x0,x1,x2,x3,x4,x5⟩:=hc1 i hlt
    obtain⟨ak,ck,rfl,-,-⟩:=hk.at
    have hiI:(i:Int)<(init.length:Int):=by omega
    have hi0:(0:Int)≤(i:Int):=by omega
    have HD:=zH (show init.drop i=init[i]::init.drop (i+1) from List.drop_eq_getElem_cons hlt)
    have k2:=qaa V0 (.cells #[.int .i64 init[i].k,.int .u64 init[i].n,.int .i64 init[i].b,.bool init[i].s,.string init[i].nm,.slice ak init[i].kids.length ck] 57)
    have hle2:=Nat.le_trans (uI S15).le (uI HC).size
    obtain⟨⟨V,vb',vs,HW,-⟩,-⟩:=wfC init[i] (uI GE _ (List.getElem_mem hlt)) (nmE_of _ _ _ _ hk hf)
    have CA:=zH (HW _ _ _ (hk.step (k2.mono hle2)) (Nat.le_trans hle2 k2.size))
    have KA:=zH (bT (uI HC) k2)
    rw[uI HD,cnW_cons] at HE
    clear hat hc1 hxw hk HW k2 HD hf HC hle2
    generalize init[i]=y at *
    generalize (cnE y).2.2.2=er at *
    go_wp2_with fail
    refine (uI CA).mono ?_
    rintro e V1 ⟨rfl,k1⟩
    have K1:=zH (bT (uI KA) k1)
    clear CA k1 KA
    by_cases he:er=0
    ·subst he
     go_wp2_with fail
     go_roundg (init.length - (i+1))
     case measure=>omega
     case rel =>
      have h2:=uI HE
      rw[if_neg (by simp)] at h2
      exact⟨i+1,by omega,rfl,by go_num,zH (bT (uI K1) (qaa _ _)),zH h2⟩
    ·have ee:(er==0)=false:=zBq he
     have h2:=uI HE
     rw[if_pos he] at h2
     subst h2
     go_wp2_with fail
     go_ret
     exact⟨rfl,((uI S15).step (bT (uI K1) (qaa _ _))).k,fun e=>absurd e he⟩
   ·have hiI:¬ (i:Int)<(init.length:Int):=by omega
    have h2:=uI HE
    rw[List.drop_eq_nil_of_le (by omega)] at h2
    obtain rfl:R=0:=by rw[← h2];unfold cnW;rw[cnEs_nil]
    go_wp2_with fail
    go_ret
    exact⟨rfl,((uI S15).step (uI HC)).k,fun _=>(uI S15).step (uI HC)⟩
 ·go_wp2_with fail
  refine (uI CW _).mono ?_
  rintro e w13 ⟨rfl,k13⟩
  have S13:=zH ((uI S10).step k13)
  have B13:=zH ((uI B10).step k13)
  have HX13:=zH ((uI HX10).step (k13.mono (uI S10).le))
  clear k13 S10 B10 HX10
  go_wp2_with fail
  first|refine zN ?_|refine zG ?_
  have MQ:(1≤max 1 size∧max 1 size≤8000)∧1≤wds b∧wds b≤4:=⟨by have:=uI HGZ;omega,(uI HQ).1,(uI HQ).2⟩
  generalize max 1 size=MX at *
  generalize wds b=q at *
  have mq1:0≤MX*q:=Int.mul_nonneg (by omega) (by omega)
  have mq2:MX*q≤8000*4:=Int.mul_le_mul MQ.1.2 MQ.2.2 (by omega) (by omega)
  have hwd:=uI HWD
  refine qR 10 1 5 ?_
  simp only[zTD]
  repeat (refine zS (fun K hK=>?_);go_simp;first|(refine zQ ?_ (fun W hW=>?_) (hK _ ?_);rotate_left;(obtain⟨d0,d1,d2⟩:=hW;go_simp;first|done|rfl);clear hK K)|(refine hK _ ?_;clear hK K))
  refine zO ?_
  have c2:=zC (uI S13).bx 2 _ rfl
  have hsb:=(uI S13).bx.lt
  refine qO 3 4 (uI CL _ (uI B13)) ?_
  simp only[zTD]
  go_wp2_with fail
  first|refine zN ?_|refine zG ?_
  clear c2 hsb
  refine qO 11 3 (uI CL _ (uI B13)) ?_
  simp only[zTD]
  go_wp2_with fail
  first|refine zN ?_|refine zG ?_
  refine qR 12 2 1 ?_
  simp only[zTD]
  repeat (refine zS (fun K hK=>?_);go_simp;first|(refine zQ ?_ (fun W hW=>?_) (hK _ ?_);rotate_left;(obtain⟨d0,d1,d2⟩:=hW;go_simp;first|done|rfl);clear hK K)|(refine hK _ ?_;clear hK K))
  refine zO ?_
  have c2:=zC (uI S13).bx 2 _ rfl
  have hsb:=(uI S13).bx.lt
  have hsf:=(uI S13).bx.box.2.2
  refine qO 14 0 (uI CL _ (uI B13)) ?_
  simp only[zTD]
  go_wp2_with fail
  first|refine zN ?_|refine zG ?_
  clear c2 hsb hsf
  have S14:=(uI S13).store (wd+MX*q)
  have B14:=zH ((uI B13).other (b':=nb) (j:=2) (u:=.int .i64 (wd+MX*q)) (Ne.symm (Nat.ne_of_lt (uI HNB))))
  have HX14:=zH ((uI HX13).step (show Below H w13 (w13.setCell ⟨nb,2,none⟩ (.int .i64 (wd+MX*q))) from Below.setCell (Below.refl _ _) (uI S13).hn _))
  generalize w13.setCell ⟨nb,2,none⟩ (.int .i64 (wd+MX*q))=W14 at *
  rw[← uI HXX] at S14
  have S15:=zH S14
  clear S14 S13 B13 HX13
  refine zE (by kernel_rfl) (uI CL _ (uI B14)) ?_
  clear CL CW mq1 mq2 MQ hwd HXX
  have c2:=zC (uI S15).bx 2 _ rfl
  have hsb:=(uI S15).bx.lt
  obtain⟨e0,e1,e2,e3,e4⟩:=qat (uI B14).box
  have hsw:=(uI B14).lt
  by_cases h8:8000<X
  ·obtain rfl:R=4:=(uI HR).trans (if_pos h8)
   go_wp2_with fail
   go_ret
   exact⟨rfl,(uI S15).k,fun e=>by cases e⟩
  have HE0:=zH (show cnW (init.drop 0)=R from ((uI HR).trans (if_neg h8)).symm)
  clear HR
  go_wp2_with fail
  go_loopg [47] init.length (fun g t wr=>∃ (i:Nat),i≤init.length∧g=init.length - i∧t=.int .i64 (i:Int)∧Hid (Below W14.heap.size W14 wr)∧Hid (cnW (init.drop i)=R))
  case atStart=>exact⟨0,Nat.zero_le _,rfl,rfl,zH (Below.refl _ _),HE0⟩
  case round =>
   clear HE0 c2 hsb e0 e1 e2 e3 e4 hsw
   obtain⟨i,hi,hg,rfl,HC,HE⟩:=hrel
   generalize wr=V0 at *
   by_cases hlt:i<init.length
   ·have hne:init≠[]:=by intro h;rw[h] at hlt;simp at hlt
    have hxw:ExL H V0 (.slice ka init.length kc) init:=(uI HX14).step ((uI HC).mono (uI S15).le)
    obtain⟨ao',cap',e1,-,hat⟩:=hxw.at
    injection e1 with e1 _ e2
    subst e1 e2
    obtain⟨b1,o1,rfl,hb1,hbw,hc1⟩:=hat hne
    obtain⟨kv,hk,hf,x0,x1,x2,x3,x4,x5⟩:=hc1 i hlt
    obtain⟨ak,ck,rfl,-,-⟩:=hk.at
    have hiI:(i:Int)<(init.length:Int):=by omega
    have hi0:(0:Int)≤(i:Int):=by omega
    have HD:=zH (show init.drop i=init[i]::init.drop (i+1) from List.drop_eq_getElem_cons hlt)
    have k2:=qaa V0 (.cells #[.int .i64 init[i].k,.int .u64 init[i].n,.int .i64 init[i].b,.bool init[i].s,.string init[i].nm,.slice ak init[i].kids.length ck] 57)
    have hle2:=Nat.le_trans (uI S15).le (uI HC).size
    obtain⟨⟨V,vb',vs,HW,-⟩,-⟩:=wfC init[i] (uI GE _ (List.getElem_mem hlt)) (nmE_of _ _ _ _ hk hf)
    have CA:=zH (HW _ _ _ (hk.step (k2.mono hle2)) (Nat.le_trans hle2 k2.size))
    have KA:=zH (bT (uI HC) k2)
    rw[uI HD,cnW_cons] at HE
    clear hat hc1 hxw hk HW k2 HD hf HC hle2
    generalize init[i]=y at *
    generalize (cnE y).2.2.2=er at *
    go_wp2_with fail
    refine (uI CA).mono ?_
    rintro e V1 ⟨rfl,k1⟩
    have K1:=zH (bT (uI KA) k1)
    clear CA k1 KA
    by_cases he:er=0
    ·subst he
     go_wp2_with fail
     go_roundg (init.length - (i+1))
     case measure=>omega
     case rel =>
      have h2:=uI HE
      rw[if_neg (by simp)] at h2
      exact⟨i+1,by omega,rfl,by go_num,zH (bT (uI K1) (qaa _ _)),zH h2⟩
    ·have ee:(er==0)=false:=zBq he
     have h2:=uI HE
     rw[if_pos he] at h2
     subst h2
     go_wp2_with fail
     go_ret
     exact⟨rfl,((uI S15).step (bT (uI K1) (qaa _ _))).k,fun e=>absurd e he⟩
   ·have hiI:¬ (i:Int)<(init.length:Int):=by omega
    have h2:=uI HE
    rw[List.drop_eq_nil_of_le (by omega)] at h2
    obtain rfl:R=0:=by rw[← h2];unfold cnW;rw[cnEs_nil]
    go_wp2_with fail
    go_ret
    exact⟨rfl,((uI S15).step (uI HC)).k,fun _=>(uI S15).step (uI HC)⟩
section
variable {w:World} {ops:Array Oper} {rest:List Oper} {o:Oper} {a:Act} {Q:Exit→Act→World→Prop}
theorem wpList_putVi (hg:o.guard=none)(m x v:Operand)(t e:TypeId)(hop:o.op=Op.insert t m x v)(ht:Tryz.prog.underlying t=some (.map 9 e))(b n:Nat)(f:ByteArray→Option Value)(hm:a.eval m=.map (some b))(hM:Mv w b n f)(hl:n<maxLen)(s:ByteArray)(hx:a.eval x=.string s)(hs:s.size≤maxLen)(y:Value)(hv:a.eval v=y)
  (hK:∀ w',Mv w' b (n+1) (putV f s y)→w.grownBy w' (some b)→wpList Tryz.prog ops Q rest (a.put o.dst undef) w'):wpList Tryz.prog ops Q (o::rest) a w:=by
 obtain⟨D,h1,h2⟩:=hM
 refine wpList_plain hg fun K' hK'=>?_
 obtain⟨w',hrun,r1,r2⟩:=h1.update Tryz.keySV ht hl (Go.WideMaps.keyOf_string_mk Tryz.underlying9 hs) (val:=y) (d:=.held y) (ps:=[]) rfl
 unfold Oper.wp
 simp[execOp,hop,hm,hx,hv,hrun,Result.andThen]
 exact hK' _ _ (hK w' (Mv.put h1.isMap h2 r1) r2)
end
def NwR (w:World)(e:Ending)(w':World):Prop:=∃ vb fb,e=.returned (.agg #[.map (some vb),.map (some fb),.int .i64 0])∧Mv w' vb 0 (fun k=>(ev0.v k).map encV)∧(∃ g,Mv w' fb 2 g∧∀ k,FnV (ev0.f k) (g k))∧vb≠fb∧w.heap.size≤vb∧w.heap.size≤fb∧Below w.heap.size w w'
theorem newNames_any (w:World):Calls Tryz.prog 10 #[] w (NwR w):=by
 have hmm:=@run_makeMap Tryz.prog
 go_enter Tryz.func10,Tryz.ntmps10
 go_wp2_with fail
 clear hmm
 have k1:=qaa w (.cells #[.map none,.map none,.int .i64 0] 47)
 have s1:=World.heap_alloc_size w (.cells #[.map none,.map none,.int .i64 0] 47)
 have BX:=BoxC.new w #[.map none,.map none,.int .i64 0] 47 (by decide)
 generalize w.alloc (.cells #[.map none,.map none,.int .i64 0] 47)=W1 at *
 have M1:=Mv.made W1
 have k2:=bT k1 (qaa W1 (.map #[] 0))
 have BX:=BX.step (qaa W1 (.map #[] 0))
 have s2:=World.heap_alloc_size W1 (.map #[] 0)
 rw[s1] at s2 M1
 generalize W1.alloc (.map #[] 0)=W2 at *
 have M2:=Mv.made W2
 have k3:=bT k2 (qaa W2 (.map #[] 0))
 have BX:=BX.step (qaa W2 (.map #[] 0))
 have M1:=M1.step (qaa W2 (.map #[] 0))
 have s3:=World.heap_alloc_size W2 (.map #[] 0)
 rw[s2] at s3 M2
 generalize W2.alloc (.map #[] 0)=W3 at *
 refine (ci16_any _).mono ?_
 rintro e w4 ⟨rfl,k4⟩
 have BX4:=BX.step k4
 have MV4:=M1.step k4
 have MF4:=M2.step k4
 have K4:=bT k3 k4
 have hs4:=k4.size
 clear k1 k2 k3 k4 BX M1 M2
 have BX5:=zH (fun o=>BX4.step (qaa w4 o))
 have MV5:=zH (fun o=>MV4.step (qaa w4 o))
 have MF5:=zH (fun o=>MF4.step (qaa w4 o))
 have K5:=zH (fun o=>bT K4 (qaa w4 o))
 have hS:=zH (And.intro s3 hs4)
 clear BX4 MV4 MF4 K4 s1 s2 s3 hs4
 go_wp2_with (refine wpList_putVi rfl (.tmp 2) (.const (.string ⟨#[112,117,116]⟩)) (.tmp 6) 45 41 rfl Tryz.underlying45 (w.heap.size+1+1) 0 _ rfl (uI MF5 _) (by decide) ⟨#[112,117,116]⟩ rfl (by decide) (.agg #[.string ⟨#[]⟩,.int .i64 0,.bool false,.slice (some ⟨w4.heap.size,0,none⟩) 1 1,.slice none 0 0]) rfl ?_;intro w6 m6 g6;have BX6:=zH ((uI BX5 _).grown (uI MF5 _) g6);have MV6:=zH ((uI MV5 _).blk (g6.block (w.heap.size+1) (uI MV5 _).lt (fun e=>by injection e with e;omega)));have K6:=zH (grown_below (uI K5 _) (by have:=(uI K5 (.map #[] 0)).size;have:=(uI hS);simp at *;omega) (by omega) g6);have MF6:=zH m6;clear m6 g6 BX5 MV5 MF5 K5)
 refine (ci16_any _).mono ?_
 rintro e w7 ⟨rfl,k7⟩
 have BX7:=zH ((uI BX6).step k7)
 have MV7:=zH ((uI MV6).step k7)
 have MF7:=zH ((uI MF6).step k7)
 have K7:=zH (bT (uI K6) k7)
 have hs7:=(uI MF7).lt
 clear BX6 MV6 MF6 K6 k7
 go_wp2_with (refine wpList_putVi rfl (.tmp 2) (.const (.string ⟨#[103,101,116]⟩)) (.tmp 8) 45 41 rfl Tryz.underlying45 (w.heap.size+1+1) 1 _ rfl (uI MF7) (by decide) ⟨#[103,101,116]⟩ rfl (by decide) (.agg #[.string ⟨#[]⟩,.int .i64 16,.bool true,.slice none 0 0,.slice none 0 0]) rfl ?_;intro w8 m8 g8;have BX8:=zH ((uI BX7).grown (uI MF7) g8);have MV8:=zH ((uI MV7).blk (g8.block (w.heap.size+1) (uI MV7).lt (fun e=>by injection e with e;omega)));have K8:=zH (grown_below (uI K7) (by have:=(uI K7).size;omega) (by omega) g8);have MF8:=zH m8;clear m8 g8 BX7 MV7 MF7 K7;obtain⟨z0,z1,z2⟩:=(uI BX8).box.at3;have zf:=(uI BX8).box.2.2;have zl:=(uI BX8).lt)
 have V:=uI MV8
 have F:=uI MF8
 have K:=uI K8
 obtain⟨p0,p1,p2⟩:=((uI BX8).box.three (.map (some (w.heap.size+1))) (.map (some (w.heap.size+1+1))) (.int .i64 0)).at3
 have e1:w.heap.size+1≠w.heap.size:=by omega
 have e2:w.heap.size+1+1≠w.heap.size:=by omega
 refine bodyPost_ret (v:=.agg #[.map (some (w.heap.size+1)),.map (some (w.heap.size+1+1)),.int .i64 0]) (by simp[results,Tryz.results10,go_sem,p0,p1,p2]) rfl ⟨w.heap.size+1,w.heap.size+1+1,rfl,((V.setCell e1).setCell e1).setCell e1,⟨_,((F.setCell e2).setCell e2).setCell e2,fun k=>?_⟩,by omega,by omega,by omega,qbs K (Nat.le_refl _) _ _ _⟩
 show FnV (if k=nGet then some (16,true,0) else if k=nPut then some (0,false,1) else none) (if k=nGet then some _ else if k=nPut then some _ else none)
 split
 ·exact⟨_,_,_,_,_,_,rfl⟩
 ·split
  ·exact⟨_,_,_,_,_,_,rfl⟩
  ·exact rfl
end Go.Proofs.YtjpnnmkefaodoaaGreat
