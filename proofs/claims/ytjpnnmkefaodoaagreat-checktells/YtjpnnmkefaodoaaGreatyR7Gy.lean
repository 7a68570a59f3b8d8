/-
  R7G, RwA.
-/
import Derived.Test.YtjpnnmkefaodoaaGreatyTrPy
set_option maxHeartbeats 8000000
set_option maxRecDepth 100000
namespace Go.Proofs.YtjpnnmkefaodoaaGreat
open Go.RowKit
set_option linter.unusedSimpArgs false
set_option linter.unusedVariables false
theorem cm_zero {a b:Int}:cm a b=0↔a=b:=by
 unfold cm
 split
 ·constructor <;> intro h <;> omega
 ·split
  ·simp[*]
  ·constructor <;> intro h <;> omega
theorem lit_cmp {n b:Int}{s:Bool}(hb:b=16∨b=32∨b=64)(hn:U n):n=mn s b n↔n≤gr b s:=by
 have e1:gr 16 true=32767:=by decide
 have e2:gr 32 true=2147483647:=by decide
 have e3:gr 64 true=9223372036854775807:=by decide
 have e4:gr 16 false=65535:=by decide
 have e5:gr 32 false=4294967295:=by decide
 have e6:gr 64 false=18446744073709551615:=by decide
 obtain⟨h0,h1⟩:=hn
 rcases hb with rfl|rfl|rfl <;> cases s
 ·rw[e4];unfold mn cut;rw[md_16];simp;omega
 ·rw[e1];unfold mn sgn cut;rw[md_16];simp;split <;> omega
 ·rw[e5];unfold mn cut;rw[md_32];simp;omega
 ·rw[e2];unfold mn sgn cut;rw[md_32];simp;split <;> omega
 ·rw[e6];unfold mn cut;rw[md_64];simp;omega
 ·rw[e3];unfold mn sgn cut;rw[md_64];simp;split <;> omega
theorem meant64 {n:Int}(hn:U n):mn false 64 n=n:=by
 obtain⟨h0,h1⟩:=hn
 unfold mn cut
 rw[md_64]
 simp
 omega
theorem rliteral_any (n:Int)(u:Bool)(w:World)(hn:U n):Calls Tryz.prog 54 #[.int .u64 n,.bool u] w fun e w'=>e=.returned (.tuple #[.agg #[.int .i64 (lit n u).1,.bool (lit n u).2.1],.int .i64 (lit n u).2.2])∧Below w.heap.size w w':=by
 have MA:=zX (fun (v:World)=>qaq n 64 false v (.inr (.inr (.inr rfl))) hn)
 rw[meant64 hn] at MA
 have HL:Hid (lit n u=if n≤gr 16 (!u) then (16,!u,0) else if n≤gr 32 (!u) then (32,!u,0) else if n≤gr 64 (!u) then (64,!u,0) else (0,false,3)):=rfl
 have b8:(18446744073709551616:Nat)<4294967296 ^ 8:=by decide
 obtain⟨hn0,hn1⟩:=hn
 have hn:U n:=⟨hn0,hn1⟩
 generalize lit n u=LI at *
 obtain⟨LB,LS,LE⟩:=LI
 simp only
 go_enter Tryz.func54,Tryz.ntmps54
 go_wp2_with fail
 have I0:Hid (Below w.heap.size w ((w.alloc (.cells #[.int .i64 0,.bool false] 34)).alloc (.cells #[.int .i64 16,.int .i64 32,.int .i64 64] 3))∧Box ((w.alloc (.cells #[.int .i64 0,.bool false] 34)).alloc (.cells #[.int .i64 16,.int .i64 32,.int .i64 64] 3)) w.heap.size [.int .i64 0,.bool false]∧Box ((w.alloc (.cells #[.int .i64 0,.bool false] 34)).alloc (.cells #[.int .i64 16,.int .i64 32,.int .i64 64] 3)) (w.heap.size+1) [.int .i64 16,.int .i64 32,.int .i64 64]):=by
  have B2:=Box.new (w.alloc (.cells #[.int .i64 0,.bool false] 34)) #[.int .i64 16,.int .i64 32,.int .i64 64] 3
  rw[World.size_alloc] at B2
  exact⟨bT (qaa _ _) (qaa _ _),(Box.new w #[.int .i64 0,.bool false] 34).step (qaa _ _),B2⟩
 generalize (w.alloc (.cells #[.int .i64 0,.bool false] 34)).alloc (.cells #[.int .i64 16,.int .i64 32,.int .i64 64] 3)=wa at *
 go_loopg [11] 3 (fun g t wr=>∃ i:Nat,i≤3∧g=3 - i∧t=.int .i64 i∧Hid (Below w.heap.size w wr∧Box wr w.heap.size [.int .i64 0,.bool false]∧Box wr (w.heap.size+1) [.int .i64 16,.int .i64 32,.int .i64 64])∧Hid ((1≤i→¬ n≤gr 16 (!u))∧(2≤i→¬ n≤gr 32 (!u))∧(3≤i→¬ n≤gr 64 (!u))))
 case atStart=>exact⟨0,by decide,rfl,rfl,I0,⟨(fun h=>by omega),(fun h=>by omega),(fun h=>by omega)⟩⟩
 case round =>
  obtain⟨i,hi,hg,rfl,I,N⟩:=hrel
  clear I0
  have hi5:i=0∨i=1∨i=2∨i=3:=by omega
  have lr:=(uX I).2.1.1
  have li:=(uX I).2.2.1
  obtain⟨x0,x1,x2⟩:=(uX I).2.2.at3
  rcases hi5 with rfl|rfl|rfl|rfl
  ·have MB:=zX (fun (v:World)=>qac n 16 (!u) v (.inr (.inl rfl)) hn)
   have yb:=qai (n:=16) (.inr (.inl rfl)) (!u) n
   have hl:=lit_cmp (b:=16) (s:=!u) (.inl rfl) hn
   generalize mn (!u) 16 n=M at *
   go_wp2_with fail
   have R:=zX (And.intro (bT (uX I).1 (qaa wr (.cells #[.int .i64 16,.bool (!u)] 34))) (And.intro ((uX I).2.1.step (qaa wr (.cells #[.int .i64 16,.bool (!u)] 34))) (And.intro ((uX I).2.2.step (qaa wr (.cells #[.int .i64 16,.bool (!u)] 34))) (Box.new wr #[.int .i64 16,.bool (!u)] 34))))
   generalize wr.alloc (.cells #[.int .i64 16,.bool (!u)] 34)=wi at *
   generalize wr.heap.size=pt at *
   obtain⟨t0,t1⟩:=(uX R).2.2.2.at2
   refine zU (fun W=>W.cell? ⟨pt,0,none⟩=some (.int .i64 16)∧W.cell? ⟨pt,1,none⟩=some (.bool (!u))) (by kernel_rfl) ?_
   refine qR 0 1 6 ?_
   simp only[zTD]
   repeat (refine zS (fun K hK=>?_);go_simp;first|(refine zQ ?_ (fun W hW=>?_) (hK _ ?_);rotate_left;(obtain⟨c1,c2⟩:=hW;go_simp;first|done|rfl);clear hK K)|(refine hK _ ?_;clear hK K))
   refine zO ?_
   refine qR 2 2 4 ?_
   simp only[zTD]
   repeat (refine zS (fun K hK=>?_);go_simp;first|(refine zQ ?_ (fun W hW=>?_) (hK _ ?_);rotate_left;(obtain⟨c1,c2⟩:=hW;go_simp;first|done|rfl);clear hK K)|(refine hK _ ?_;clear hK K))
   refine zO ?_
   refine qO 1 3 ⟨t0,t1⟩ ?_
   simp only[zTD]
   go_wp2_with fail
   refine (uX MA _).mono ?_
   rintro e w2 ⟨p,rfl,hp,k2,G2⟩
   have k2':=qbu k2
   have R2:=zX (And.intro (bT (uX R).1 k2') (And.intro ((uX R).2.1.step k2') (And.intro ((uX R).2.2.1.step k2') ((uX R).2.2.2.step k2'))))
   have HB2:=zX G2
   clear t0 t1 R k2 k2' G2
   obtain⟨t0,t1⟩:=(uX R2).2.2.2.at2
   go_wp2_with fail
   first|refine zN ?_|refine zG ?_
   refine qO 4 2 ⟨t0,t1⟩ ?_
   simp only[zTD]
   go_wp2_with fail
   refine (uX MB _).mono ?_
   rintro e w3 ⟨q,rfl,hq,k3,G3⟩
   have R:=zX (And.intro (bT (uX R2).1 k3) (And.intro ((uX R2).2.1.step k3) (And.intro ((uX R2).2.2.1.step k3) ((uX R2).2.2.2.step k3))))
   have HB3:=zX ((uX HB2).step k3)
   have HC3:=zX G3
   clear t0 t1 R2 k3 G3
   obtain⟨t0,t1⟩:=(uX R).2.2.2.at2
   go_wp2_with fail
   first|refine zN ?_|refine zG ?_
   refine qO 5 1 ⟨t0,t1⟩ ?_
   simp only[zTD]
   go_wp2_with fail
   refine (qaw p q n M w3 (uX HB3) (uX HC3) (by omega) (by omega)).mono ?_
   rintro e w4 ⟨⟨jj,rfl⟩,rfl⟩
   have kd:Below w3.heap.size w3 (w3.drewN jj):=_root_.Go.below_drewN (Below.refl _ _) jj
   have R':=zX (And.intro (bT (uX R).1 kd) (And.intro ((uX R).2.1.step kd) (And.intro ((uX R).2.2.1.step kd) ((uX R).2.2.2.step kd))))
   clear t0 t1 R HB3 HC3 kd
   have R:=R'
   clear R'
   generalize w3.drewN jj=w4 at *
   obtain⟨t0,t1⟩:=(uX R).2.2.2.at2
   go_wp2_with fail
   first|refine zN ?_|refine zG ?_
   refine qO 6 0 ⟨t0,t1⟩ ?_
   simp only[zTD]
   go_wp2_with fail
   first|refine zN ?_|refine zG ?_
   refine zE (by kernel_rfl) ⟨t0,t1⟩ ?_
   have ll:=(uX R).2.1.1
   obtain⟨r0,r1⟩:=(uX R).2.1.at2
   have rf:=(uX R).2.1.2.2
   by_cases hz:n≤gr 16 (!u)
   ·have dz:(cm n M==0)=true:=by rw[beq_iff_eq];exact cm_zero.2 (hl.2 hz)
    unfold Hid at HL
    rw[if_pos hz] at HL
    simp only[Prod.mk.injEq] at HL
    obtain⟨rfl,rfl,rfl⟩:=HL
    have p0:=(uX R).2.1.put0
    have p1:=(uX R).2.1.put1
    go_wp2_with fail
    exact bodyPost_ret (v:=.tuple #[.agg #[.int .i64 16,.bool (!u)],.int .i64 0]) (by simp[results,Tryz.results54,go_sem,p0,p1]) rfl ⟨rfl,zY (uX R).1 (Nat.le_refl _) _ _⟩
   ·have dz:(cm n M==0)=false:=by rw[beq_eq_false_iff_ne];exact fun h=>hz (hl.1 (cm_zero.1 h))
    have hz':=zX hz
    clear hz hl
    go_wp2_with fail
    go_roundg 2
    case measure=>omega
    case rel=>exact⟨1,by decide,rfl,rfl,zX (And.intro (uX R).1 (And.intro (uX R).2.1 (uX R).2.2.1)),⟨(fun _=>uX hz'),(fun h=>by omega),(fun h=>by omega)⟩⟩
  ·have MB:=zX (fun (v:World)=>qac n 32 (!u) v (.inr (.inr (.inl rfl))) hn)
   have yb:=qai (n:=32) (.inr (.inr (.inl rfl))) (!u) n
   have hl:=lit_cmp (b:=32) (s:=!u) (.inr (.inl rfl)) hn
   generalize mn (!u) 32 n=M at *
   go_wp2_with fail
   have R:=zX (And.intro (bT (uX I).1 (qaa wr (.cells #[.int .i64 32,.bool (!u)] 34))) (And.intro ((uX I).2.1.step (qaa wr (.cells #[.int .i64 32,.bool (!u)] 34))) (And.intro ((uX I).2.2.step (qaa wr (.cells #[.int .i64 32,.bool (!u)] 34))) (Box.new wr #[.int .i64 32,.bool (!u)] 34))))
   generalize wr.alloc (.cells #[.int .i64 32,.bool (!u)] 34)=wi at *
   generalize wr.heap.size=pt at *
   obtain⟨t0,t1⟩:=(uX R).2.2.2.at2
   refine zU (fun W=>W.cell? ⟨pt,0,none⟩=some (.int .i64 32)∧W.cell? ⟨pt,1,none⟩=some (.bool (!u))) (by kernel_rfl) ?_
   refine qR 0 1 6 ?_
   simp only[zTD]
   repeat (refine zS (fun K hK=>?_);go_simp;first|(refine zQ ?_ (fun W hW=>?_) (hK _ ?_);rotate_left;(obtain⟨c1,c2⟩:=hW;go_simp;first|done|rfl);clear hK K)|(refine hK _ ?_;clear hK K))
   refine zO ?_
   refine qR 2 2 4 ?_
   simp only[zTD]
   repeat (refine zS (fun K hK=>?_);go_simp;first|(refine zQ ?_ (fun W hW=>?_) (hK _ ?_);rotate_left;(obtain⟨c1,c2⟩:=hW;go_simp;first|done|rfl);clear hK K)|(refine hK _ ?_;clear hK K))
   refine zO ?_
   refine qO 1 3 ⟨t0,t1⟩ ?_
   simp only[zTD]
   go_wp2_with fail
   refine (uX MA _).mono ?_
   rintro e w2 ⟨p,rfl,hp,k2,G2⟩
   have k2':=qbu k2
   have R2:=zX (And.intro (bT (uX R).1 k2') (And.intro ((uX R).2.1.step k2') (And.intro ((uX R).2.2.1.step k2') ((uX R).2.2.2.step k2'))))
   have HB2:=zX G2
   clear t0 t1 R k2 k2' G2
   obtain⟨t0,t1⟩:=(uX R2).2.2.2.at2
   go_wp2_with fail
   first|refine zN ?_|refine zG ?_
   refine qO 4 2 ⟨t0,t1⟩ ?_
   simp only[zTD]
   go_wp2_with fail
   refine (uX MB _).mono ?_
   rintro e w3 ⟨q,rfl,hq,k3,G3⟩
   have R:=zX (And.intro (bT (uX R2).1 k3) (And.intro ((uX R2).2.1.step k3) (And.intro ((uX R2).2.2.1.step k3) ((uX R2).2.2.2.step k3))))
   have HB3:=zX ((uX HB2).step k3)
   have HC3:=zX G3
   clear t0 t1 R2 k3 G3
   obtain⟨t0,t1⟩:=(uX R).2.2.2.at2
   go_wp2_with fail
   first|refine zN ?_|refine zG ?_
   refine qO 5 1 ⟨t0,t1⟩ ?_
   simp only[zTD]
   go_wp2_with fail
   refine (qaw p q n M w3 (uX HB3) (uX HC3) (by omega) (by omega)).mono ?_
   rintro e w4 ⟨⟨jj,rfl⟩,rfl⟩
   have kd:Below w3.heap.size w3 (w3.drewN jj):=_root_.Go.below_drewN (Below.refl _ _) jj
   have R':=zX (And.intro (bT (uX R).1 kd) (And.intro ((uX R).2.1.step kd) (And.intro ((uX R).2.2.1.step kd) ((uX R).2.2.2.step kd))))
   clear t0 t1 R HB3 HC3 kd
   have R:=R'
   clear R'
   generalize w3.drewN jj=w4 at *
   obtain⟨t0,t1⟩:=(uX R).2.2.2.at2
   go_wp2_with fail
   first|refine zN ?_|refine zG ?_
   refine qO 6 0 ⟨t0,t1⟩ ?_
   simp only[zTD]
   go_wp2_with fail
   first|refine zN ?_|refine zG ?_
   refine zE (by kernel_rfl) ⟨t0,t1⟩ ?_
   have ll:=(uX R).2.1.1
   obtain⟨r0,r1⟩:=(uX R).2.1.at2
   have rf:=(uX R).2.1.2.2
   by_cases hz:n≤gr 32 (!u)
   ·have dz:(cm n M==0)=true:=by rw[beq_iff_eq];exact cm_zero.2 (hl.2 hz)
    unfold Hid at HL
    rw[if_neg (by have:=(uX N).1 (by decide);omega)] at HL
    rw[if_pos hz] at HL
    simp only[Prod.mk.injEq] at HL
    obtain⟨rfl,rfl,rfl⟩:=HL
    have p0:=(uX R).2.1.put0
    have p1:=(uX R).2.1.put1
    go_wp2_with fail
    exact bodyPost_ret (v:=.tuple #[.agg #[.int .i64 32,.bool (!u)],.int .i64 0]) (by simp[results,Tryz.results54,go_sem,p0,p1]) rfl ⟨rfl,zY (uX R).1 (Nat.le_refl _) _ _⟩
   ·have dz:(cm n M==0)=false:=by rw[beq_eq_false_iff_ne];exact fun h=>hz (hl.1 (cm_zero.1 h))
    have hz':=zX hz
    clear hz hl
    go_wp2_with fail
    go_roundg 1
    case measure=>omega
    case rel=>exact⟨2,by decide,rfl,rfl,zX (And.intro (uX R).1 (And.intro (uX R).2.1 (uX R).2.2.1)),⟨(fun _=>by have:=(uX N).1 (by decide);omega),(fun _=>uX hz'),(fun h=>by omega)⟩⟩
  ·have MB:=zX (fun (v:World)=>qac n 64 (!u) v (.inr (.inr (.inr rfl))) hn)
   have yb:=qai (n:=64) (.inr (.inr (.inr rfl))) (!u) n
   have hl:=lit_cmp (b:=64) (s:=!u) (.inr (.inr rfl)) hn
   generalize mn (!u) 64 n=M at *
   go_wp2_with fail
   have R:=zX (And.intro (bT (uX I).1 (qaa wr (.cells #[.int .i64 64,.bool (!u)] 34))) (And.intro ((uX I).2.1.step (qaa wr (.cells #[.int .i64 64,.bool (!u)] 34))) (And.intro ((uX I).2.2.step (qaa wr (.cells #[.int .i64 64,.bool (!u)] 34))) (Box.new wr #[.int .i64 64,.bool (!u)] 34))))
   generalize wr.alloc (.cells #[.int .i64 64,.bool (!u)] 34)=wi at *
   generalize wr.heap.size=pt at *
   obtain⟨t0,t1⟩:=(uX R).2.2.2.at2
   refine zU (fun W=>W.cell? ⟨pt,0,none⟩=some (.int .i64 64)∧W.cell? ⟨pt,1,none⟩=some (.bool (!u))) (by kernel_rfl) ?_
   refine qR 0 1 6 ?_
   simp only[zTD]
   repeat (refine zS (fun K hK=>?_);go_simp;first|(refine zQ ?_ (fun W hW=>?_) (hK _ ?_);rotate_left;(obtain⟨c1,c2⟩:=hW;go_simp;first|done|rfl);clear hK K)|(refine hK _ ?_;clear hK K))
   refine zO ?_
   refine qR 2 2 4 ?_
   simp only[zTD]
   repeat (refine zS (fun K hK=>?_);go_simp;first|(refine zQ ?_ (fun W hW=>?_) (hK _ ?_);rotate_left;(obtain⟨c1,c2⟩:=hW;go_simp;first|done|rfl);clear hK K)|(refine hK _ ?_;clear hK K))
   refine zO ?_
   refine qO 1 3 ⟨t0,t1⟩ ?_
   simp only[zTD]
   go_wp2_with fail
   refine (uX MA _).mono ?_
   rintro e w2 ⟨p,rfl,hp,k2,G2⟩
   have k2':=qbu k2
   have R2:=zX (And.intro (bT (uX R).1 k2') (And.intro ((uX R).2.1.step k2') (And.intro ((uX R).2.2.1.step k2') ((uX R).2.2.2.step k2'))))
   have HB2:=zX G2
   clear t0 t1 R k2 k2' G2
   obtain⟨t0,t1⟩:=(uX R2).2.2.2.at2
   go_wp2_with fail
   first|refine zN ?_|refine zG ?_
   refine qO 4 2 ⟨t0,t1⟩ ?_
   simp only[zTD]
   go_wp2_with fail
   refine (uX MB _).mono ?_
   rintro e w3 ⟨q,rfl,hq,k3,G3⟩
   have R:=zX (And.intro (bT (uX R2).1 k3) (And.intro ((uX R2).2.1.step k3) (And.intro ((uX R2).2.2.1.step k3) ((uX R2).2.2.2.step k3))))
   have HB3:=zX ((uX HB2).step k3)
   have HC3:=zX G3
   clear t0 t1 R2 k3 G3
   obtain⟨t0,t1⟩:=(uX R).2.2.2.at2
   go_wp2_with fail
   first|refine zN ?_|refine zG ?_
   refine qO 5 1 ⟨t0,t1⟩ ?_
   simp only[zTD]
   go_wp2_with fail
   refine (qaw p q n M w3 (uX HB3) (uX HC3) (by omega) (by omega)).mono ?_
   rintro e w4 ⟨⟨jj,rfl⟩,rfl⟩
   have kd:Below w3.heap.size w3 (w3.drewN jj):=_root_.Go.below_drewN (Below.refl _ _) jj
   have R':=zX (And.intro (bT (uX R).1 kd) (And.intro ((uX R).2.1.step kd) (And.intro ((uX R).2.2.1.step kd) ((uX R).2.2.2.step kd))))
   clear t0 t1 R HB3 HC3 kd
   have R:=R'
   clear R'
   generalize w3.drewN jj=w4 at *
   obtain⟨t0,t1⟩:=(uX R).2.2.2.at2
   go_wp2_with fail
   first|refine zN ?_|refine zG ?_
   refine qO 6 0 ⟨t0,t1⟩ ?_
   simp only[zTD]
   go_wp2_with fail
   first|refine zN ?_|refine zG ?_
   refine zE (by kernel_rfl) ⟨t0,t1⟩ ?_
   have ll:=(uX R).2.1.1
   obtain⟨r0,r1⟩:=(uX R).2.1.at2
   have rf:=(uX R).2.1.2.2
   by_cases hz:n≤gr 64 (!u)
   ·have dz:(cm n M==0)=true:=by rw[beq_iff_eq];exact cm_zero.2 (hl.2 hz)
    unfold Hid at HL
    rw[if_neg (by have:=(uX N).1 (by decide);omega)] at HL
    rw[if_neg (by have:=(uX N).2.1 (by decide);omega)] at HL
    rw[if_pos hz] at HL
    simp only[Prod.mk.injEq] at HL
    obtain⟨rfl,rfl,rfl⟩:=HL
    have p0:=(uX R).2.1.put0
    have p1:=(uX R).2.1.put1
    go_wp2_with fail
    exact bodyPost_ret (v:=.tuple #[.agg #[.int .i64 64,.bool (!u)],.int .i64 0]) (by simp[results,Tryz.results54,go_sem,p0,p1]) rfl ⟨rfl,zY (uX R).1 (Nat.le_refl _) _ _⟩
   ·have dz:(cm n M==0)=false:=by rw[beq_eq_false_iff_ne];exact fun h=>hz (hl.1 (cm_zero.1 h))
    have hz':=zX hz
    clear hz hl
    go_wp2_with fail
    go_roundg 0
    case measure=>omega
    case rel=>exact⟨3,by decide,rfl,rfl,zX (And.intro (uX R).1 (And.intro (uX R).2.1 (uX R).2.2.1)),⟨(fun _=>by have:=(uX N).1 (by decide);omega),(fun _=>by have:=(uX N).2.1 (by decide);omega),(fun _=>uX hz')⟩⟩
  ·unfold Hid at HL
   rw[if_neg (by have:=(uX N).1 (by decide);omega),if_neg (by have:=(uX N).2.1 (by decide);omega),if_neg (by have:=(uX N).2.2 (by decide);omega)] at HL
   simp only[Prod.mk.injEq] at HL
   obtain⟨rfl,rfl,rfl⟩:=HL
   obtain⟨r0,r1⟩:=(uX I).2.1.at2
   have rf:=(uX I).2.1.2.2
   have p0:=(uX I).2.1.put0
   have p1:=(uX I).2.1.put1
   go_wp2_with fail
   exact bodyPost_ret (v:=.tuple #[.agg #[.int .i64 0,.bool false],.int .i64 3]) (by simp[results,Tryz.results54,go_sem,p0,p1]) rfl ⟨rfl,zY (uX I).1 (Nat.le_refl _) _ _⟩
theorem qao (lb c d:Nat)(w:World)(h:Box w lb [.int .i64 (c:Int)])(hc:c≤20000)(hd:d≤101):Calls Tryz.prog 33 #[.pointer (some ⟨lb,0,none⟩),.int .i64 (d:Int)] w fun e w'=>e=.returned (.int .i64 (nodeW d c))∧Ctd w w' lb (c+1):=by
 have BX:=zH (h.set (j:=0) (u:=.int .i64 ((c+1:Nat):Int)) (by simp))
 have c0:=h.2.1 0 _ rfl
 have f0:=h.2.2 0
 have hlb:=h.1
 have c1:=(uI BX).2.1 0 _ rfl
 unfold nodeW
 by_cases h1:20000<c+1
 ·have h1I:(20000:Int)<(c:Int)+1:=by omega
  rw[if_pos (.inl h1)]
  go_enter Tryz.func33,Tryz.ntmps33
  go_wp2_with fail
  go_ret
  exact⟨rfl,uI BX,Kb.setCell _ _⟩
 ·have h1I:¬ (20000:Int)<(c:Int)+1:=by omega
  by_cases h2:100<d
  ·have h2I:(100:Int)<(d:Int):=by omega
   rw[if_pos (.inr h2)]
   go_enter Tryz.func33,Tryz.ntmps33
   go_wp2_with fail
   go_ret
   exact⟨rfl,uI BX,Kb.setCell _ _⟩
  ·have h2I:¬ (100:Int)<(d:Int):=by omega
   rw[if_neg (by omega)]
   go_enter Tryz.func33,Tryz.ntmps33
   go_wp2_with fail
   go_ret
   exact⟨rfl,uI BX,Kb.setCell _ _⟩
theorem rnamed8 (nm:ByteArray)(w:World)(h:nm.size≤maxLen):Calls Tryz.prog 35 #[.string nm] w fun e w'=>e=.returned (.bool (namN nm))∧Below w.heap.size w w':=named8_any nm.data.toList w (by simpa using h)
theorem rvalid8 (b:Int)(s:Bool)(w:World):Calls Tryz.prog 36 #[.agg #[.int .i64 b,.bool s]] w fun e w'=>e=.returned (.bool (isWB b))∧Below w.heap.size w w':=by
 cases h:isWB b
 ·exact rvalid7_no b s w (noW_of h)
 ·exact qab b s w (isW_of h)
theorem rtyped_any (b:Int)(s:Bool)(nm:ByteArray)(w:World)(hn:nm.size≤maxLen):Calls Tryz.prog 32 #[.agg #[.int .i64 b,.bool s],.string nm] w fun e w'=>e=.returned (.int .i64 (wTyped b nm))∧Below w.heap.size w w':=by
 have VA:=zH (fun W=>rvalid8 b s W)
 unfold wTyped wName
 have k0:=qaa w (.cells #[.int .i64 b,.bool s] 34)
 cases h:isWB b
 ·rw[h] at VA
  go_enter Tryz.func32,Tryz.ntmps32
  go_wp2_with fail
  refine (uI VA _).mono ?_
  rintro e w1 ⟨rfl,k1⟩
  have k2:=bT k0 k1
  go_wp2_with fail
  go_ret
  exact⟨rfl,k2⟩
 ·rw[h] at VA
  have NA:=zH (fun W=>rnamed8 nm W hn)
  cases hm:namN nm
  all_goals
   rw[hm] at NA
   go_enter Tryz.func32,Tryz.ntmps32
   go_wp2_with fail
   refine (uI VA _).mono ?_
   rintro e w1 ⟨rfl,k1⟩
   have k2:=bT k0 k1
   go_wp2_with fail
   refine (uI NA _).mono ?_
   rintro e w2 ⟨rfl,k3⟩
   have k4:=bT k2 k3
   go_wp2_with fail
   go_ret
   exact⟨rfl,k4⟩
def kidN (k:Int):Int:=if k<1∨26<k then -2 else if k≤2 then 0 else if k=4 then -1 else if k≤8 then 1 else 2
theorem rkids_any (k:Int)(w:World):Calls Tryz.prog 53 #[.int .i64 k] w fun e w'=>e=.returned (.int .i64 (kidN k))∧w'=w:=by
 unfold kidN
 by_cases h1:k<1
 ·rw[if_pos (.inl h1)]
  go_enter Tryz.func53,Tryz.ntmps53
  go_wp2_with fail
  go_ret
  exact⟨rfl,rfl⟩
 ·by_cases h2:26<k
  ·rw[if_pos (.inr h2)]
   go_enter Tryz.func53,Tryz.ntmps53
   go_wp2_with fail
   go_ret
   exact⟨rfl,rfl⟩
  ·rw[if_neg (by omega)]
   by_cases h3:k≤2
   ·rw[if_pos h3]
    go_enter Tryz.func53,Tryz.ntmps53
    go_wp2_with fail
    go_ret
    exact⟨rfl,rfl⟩
   ·rw[if_neg h3]
    by_cases h4:k=4
    ·subst h4
     go_enter Tryz.func53,Tryz.ntmps53
     go_wp2_with fail
     go_ret
     exact⟨rfl,rfl⟩
    ·have e4:(k==4)=false:=zBq h4
     rw[if_neg h4]
     by_cases h5:k≤8
     ·rw[if_pos h5]
      go_enter Tryz.func53,Tryz.ntmps53
      go_wp2_with fail
      go_ret
      exact⟨rfl,rfl⟩
     ·rw[if_neg h5]
      go_enter Tryz.func53,Tryz.ntmps53
      go_wp2_with fail
      go_ret
      exact⟨rfl,rfl⟩
end Go.Proofs.YtjpnnmkefaodoaaGreat
