import Derived.Test.YtfjapapiappacaaMaD
set_option linter.unusedVariables false
set_option linter.unusedSimpArgs false
set_option maxRecDepth 100000
namespace Go.Proofs.Ytfjapapiappacaa
section
open Go.RowKit
def Ret3 (a b:Int) (c:Bool) (w:World) (e:Ending) (w':World):Prop:=e= .returned (.tuple #[.int .i64 a, .int .i64 b, .bool c])∧w=w'
def No3 (w:World) (e:Ending) (w':World):Prop:= ∃ a b:Int,e= .returned (.tuple #[.int .i64 a, .int .i64 b, .bool false])∧w=w'
theorem Ret3.mk {X Y Z:Value} {a a' b b':Int} {c c':Bool} {w:World} (hx:X= .int .i64 a') (hy:Y= .int .i64 b') (hz:Z= .bool c') (h1:a'=a) (h2:b'=b) (h3:c'=c):Ret3 a b c w (.returned (.tuple #[X,Y,Z])) w:=by
 subst h1 h2 h3;exact ⟨by rw [hx,hy,hz],rfl⟩
theorem No3.mk {X Y Z:Value} {a' b':Int} {c':Bool} {w:World} (hx:X= .int .i64 a') (hy:Y= .int .i64 b') (hz:Z= .bool c') (h3:c'=false):No3 w (.returned (.tuple #[X,Y,Z])) w:=by
 subst h3;exact ⟨_,_,by rw [hx,hy,hz],rfl⟩
theorem first_one (A:Option Addr) (B n c:Nat) (x:Int) (r:List Int) (w:World) (hn:n=(x::r).length) (hx:Rd w B A ((x::r).map (Value.int .u8))) (h0:0≤x) (h1:x<256) (hne:x≠255):
  Calls Try.prog 43 #[.slice A n c] w (Ret3 (x-1) 1 true w):=by
 subst hn
 obtain ⟨ad,rfl,hb,hc⟩:=hx.at_ (k:=0) (by simp)
 have hc0:w.cell? ad=some (.int .u8 x):=by simpa [adr_zero] using hc
 have hl:0<(x::r).length:=by simp
 have hne':(x !=255)=true:=by simpa using hne
 generalize (x::r).length=n at*
 go_enter Try.func43,Try.ntmps43
 go_wp2
 go_ret3
 exact Ret3.mk rfl rfl rfl (by omega) rfl rfl
theorem first_short (A:Option Addr) (B n c:Nat) (r:List Int) (w:World) (hn:n=(255::r).length) (hx:Rd w B A ((255::r).map (Value.int .u8))) (hr:r.length<8):
  Calls Try.prog 43 #[.slice A n c] w (No3 w):=by
 subst hn
 obtain ⟨ad,rfl,hb,hc⟩:=hx.at_ (k:=0) (by simp)
 have hc0:w.cell? ad=some (.int .u8 255):=by simpa [adr_zero] using hc
 have hl:0<(255::r).length:=by simp
 have hl2:(255::r).length<9:=by simp;omega
 generalize (255::r).length=n at*
 go_enter Try.func43,Try.ntmps43
 go_wp2
 go_ret3
 exact No3.mk rfl rfl rfl rfl
theorem isB_at {l:List Int} (h:Cd.isB l) {k:Nat} (hk:k<l.length):0≤l.getD k 0∧l.getD k 0<256:=by
 have:=h l[k] (List.getElem_mem hk)
 simpa [List.getD,hk] using this
theorem isB_take {l:List Int} (h:Cd.isB l) (k:Nat):Cd.isB (l.take k):=fun x hx=>h x (List.mem_of_mem_take hx)
theorem num_bd {r:List Int} (hB:Cd.isB r) (k:Nat) (hk:k<8):0≤Cd.numOf ((r.take 8).take k)∧Cd.numOf ((r.take 8).take k)<72057594037927936:=by
 have h:=Cd.numOf_bd (isB_take (isB_take hB 8) k)
 refine ⟨h.1,Int.lt_of_lt_of_le h.2 ?_⟩
 have hl:((r.take 8).take k).length≤7:=by rw [List.length_take];omega
 generalize ((r.take 8).take k).length=m at hl
 rcases (by omega:m=0∨m=1∨m=2∨m=3∨m=4∨m=5∨m=6∨m=7) with rfl |rfl |rfl |rfl |rfl |rfl |rfl |rfl<;>decide
theorem num_bd8 {r:List Int} (hB:Cd.isB r) (hr:8≤r.length):0≤Cd.numOf (r.take 8)∧Cd.numOf (r.take 8)<18446744073709551616:=by
 have h:=Cd.numOf_bd (isB_take hB 8)
 rw [show (r.take 8).length=8 by simp;omega] at h
 exact h
theorem or_add {a x:Int} (h0:0≤a) (h1:a<72057594037927936) (h2:0≤x) (h3:x<256):bits .or .u64 (a*256) x=a*256+x:=by
 obtain ⟨a,rfl⟩: ∃ b:Nat,a=b:=⟨a.toNat,by omega⟩
 obtain ⟨x,rfl⟩: ∃ b:Nat,x=b:=⟨x.toNat,by omega⟩
 rw [show ((a:Int)*256)=((a*256:Nat):Int) by simp,bits_or_u64_nat _ _ (by omega) (by omega)]
 have:=Nat.shiftLeft_add_eq_or_of_lt (a:=a) (b:=x) (i:=8) (by omega)
 rw [Nat.shiftLeft_eq] at this
 rw [←this]
 simp
theorem num_or {r:List Int} (hB:Cd.isB r) (k:Nat) (hk:k<8) (hr:8≤r.length):
  bits .or .u64 (Cd.numOf ((r.take 8).take k)*256) (r.getD k 0)=Cd.numOf ((r.take 8).take (k+1)):=by
 have hs:(r.take 8).take (k+1)=(r.take 8).take k++[r.getD k 0]:=by
  rw [take_snoc (r.take 8) k (by rw [List.length_take];omega)]
  congr 2
  simp [List.getD,List.getElem?_take,hk]
 rw [hs,Cd.numOf_snoc]
 exact or_add (num_bd hB k hk).1 (num_bd hB k hk).2 (isB_at hB (k:=k) (by omega)).1 (isB_at hB (k:=k) (by omega)).2
theorem toI_conv {u:Int} (h0:0≤u) (h1:u<18446744073709551616):wrap64 u=Cd.toI u:=by
 unfold wrap64 Cd.toI;split<;>omega
theorem int_eq {k:IntKind} {a b:Int} (h:a=b):Value.int k a=Value.int k b:=by rw [h]
theorem first_wide (A:Option Addr) (B n c:Nat) (r:List Int) (w:World) (hn:n=(255::r).length) (hc:n≤c) (hx:Rd w B A ((255::r).map (Value.int .u8))) (hr:8≤r.length) (hB:Cd.isB r):
  Calls Try.prog 43 #[.slice A n c] w (Ret3 (Cd.toI (Cd.numOf (r.take 8))) 9 (!Cd.nrB (Cd.toI (Cd.numOf (r.take 8)))) w):=by
 subst hn
 obtain ⟨ad,rfl,hb,hc⟩:=hx.at_ (k:=0) (by simp)
 have hc0:w.cell? ad=some (.int .u8 255):=by simpa [adr_zero] using hc
 have hcs: ∀ k,k<8→w.cell? ((ad.add 1).add k)=some (.int .u8 (r.getD k 0)):=by
  intro k hk
  rw [adr_add]
  obtain ⟨ad',e,_,h⟩:=hx.at_ (k:=1+k) (by simp;omega)
  injection e with e
  subst e
  rw [h]
  simp [Nat.add_comm 1 k]
 have hl:0<(255::r).length:=by simp
 have hl2:9≤(255::r).length:=by simp;omega
 have HCS:=Lib.hid hcs
 clear hcs
 have HX:=Lib.hid hx
 clear hx
 generalize (255::r).length=n at*
 go_enter Try.func43,Try.ntmps43
 go_wp2
 go_loop [5,23] (fun u i=> ∃ k:Nat,k≤8∧i= .int .i64 k∧u= .int .u64 (Cd.numOf ((r.take 8).take k))) (fun _ i=>8-(intOf i).toNat)
 case atStart=>exact ⟨0,by omega,rfl,rfl⟩
 case round=>
  obtain ⟨k,hk,rfl,rfl⟩:=hrel
  by_cases hlt:k<8
  ·have hck:w.cell? ⟨ad.block,ad.off+1+k,none⟩=some (.int .u8 (r.getD k 0)):=by
    have:=HCS.out k hlt
    rwa [show (ad.add 1).add k=⟨ad.block,ad.off+1+k,none⟩ by rw [adr_add];unfold Addr.add;rw [if_neg (by omega)];simp [Nat.add_assoc]] at this
   obtain ⟨b1,b2⟩:=num_bd hB k hlt
   obtain ⟨x1,x2⟩:=isB_at hB (k:=k) (by omega)
   have hor:=num_or hB k hlt hr
   generalize r.getD k 0=x at hck x1 x2 hor
   have HOR:=Lib.hid hor
   clear hor
   go_wp2
   go_round
   case rel=>exact ⟨k+1,by omega,by go_num,int_eq HOR.out⟩
   case measure=>simp [intOf];omega
  ·have:k=8:=by omega
   subst this
   obtain ⟨b1,b2⟩:=num_bd8 hB hr
   have hI:=toI_conv b1 b2
   rw [List.take_of_length_le (l:=r.take 8) (by simp;omega)]
   have HI:=Lib.hid hI
   clear hI
   go_wp2_with (go_at_call 63;refine (narrow_any _ _).mono ?_;rintro e w' ⟨rfl,rfl⟩)
   go_ret3
   have hI:=HI.out
   exact Ret3.mk rfl rfl rfl hI rfl (by rw [hI])
def GetPost (b:List Int) (w:World) (e:Ending) (w':World):Prop:=
 Below w.heap.size w w'∧match Cd.getL b with
  |some l=> ∃ v,e= .returned (.tuple #[v, .bool true])∧w'.ownsRow w.heap.size 3 1 v l.length (l.map (Value.int .i64))
  |none=>e= .returned (.tuple #[.slice none 0 0, .bool false])
theorem GetPost.yes {b l:List Int} {w w':World} {v X:Value} {n:Nat} (h:Cd.getL b=some l) (hX:X= .bool true) (hown:w'.ownsRow w.heap.size 3 1 v n (l.map (Value.int .i64))) (hb:Below w.heap.size w w'):GetPost b w (.returned (.tuple #[v,X])) w':=by
 subst hX
 refine ⟨hb, ?_⟩
 rw [h]
 have:=own_len hown
 rw [List.length_map] at this
 exact ⟨v,rfl,by rw [this];exact hown⟩
theorem GetPost.no {b:List Int} {w w':World} {X Y:Value} (h:Cd.getL b=none) (hX:X= .slice none 0 0) (hY:Y= .bool false) (hb:Below w.heap.size w w'):GetPost b w (.returned (.tuple #[X,Y])) w':=by
 subst hX hY
 refine ⟨hb, ?_⟩
 rw [h]
def FstPost (b:List Int) (w:World) (e:Ending) (w':World):Prop:=
 w=w'∧match Cd.fst1 b with
  |some (m,k)=>e= .returned (.tuple #[.int .i64 m, .int .i64 k, .bool true])
  |none=> ∃ a c:Int,e= .returned (.tuple #[.int .i64 a, .int .i64 c, .bool false])
theorem first_any (A:Option Addr) (B n c:Nat) (b:List Int) (w:World) (hn:n=b.length) (hc:n≤c) (hx:Rd w B A (b.map (Value.int .u8))) (hB:Cd.isB b) (hb:b≠[]):
  Calls Try.prog 43 #[.slice A n c] w (FstPost b w):=by
 cases b with
 |nil=>exact absurd rfl hb
 |cons x r=>
  have h0:=hB x (by simp)
  by_cases hne:x=255
  ·subst hne
   by_cases hr:r.length<8
   ·refine (first_short A B n c r w hn hx hr).mono ?_
    rintro e w' ⟨a,b,rfl,rfl⟩
    refine ⟨rfl, ?_⟩
    simp only [Cd.fst1,if_true,hr]
    exact ⟨a,b,rfl⟩
   ·refine (first_wide A B n c r w hn hc hx (by omega) (fun y hy=>hB y (by simp [hy]))).mono ?_
    rintro e w' ⟨rfl,rfl⟩
    refine ⟨rfl, ?_⟩
    simp only [Cd.fst1,if_true,hr,if_false]
    cases hq:Cd.nrB (Cd.toI (Cd.numOf (r.take 8)))
    ·simp
    ·simp only [if_true,Bool.not_true];exact ⟨_,_,rfl⟩
  ·refine (first_one A B n c x r w hn hx h0.1 h0.2 hne).mono ?_
   rintro e w' ⟨rfl,rfl⟩
   refine ⟨rfl, ?_⟩
   simp only [Cd.fst1,if_neg hne]
   rfl
end
end Go.Proofs.Ytfjapapiappacaa
namespace Go.Proofs.Ytfjapapiappacaa
section
open Go.RowKit
theorem fst_some {b:List Int} {w:World} {e:Ending} {w':World} {m:Int} {k:Nat} (h:Cd.fst1 b=some (m,k)) (hp:FstPost b w e w'):e= .returned (.tuple #[.int .i64 m, .int .i64 k, .bool true])∧w=w':=by
 unfold FstPost at hp;rw [h] at hp;exact ⟨hp.2,hp.1⟩
theorem fst_none {b:List Int} {w:World} {e:Ending} {w':World} (h:Cd.fst1 b=none) (hp:FstPost b w e w'): ∃ a c:Int,e= .returned (.tuple #[.int .i64 a, .int .i64 c, .bool false])∧w=w':=by
 unfold FstPost at hp;rw [h] at hp;obtain ⟨rfl,a,c,he⟩:=hp;exact ⟨a,c,he,rfl⟩
theorem isB_drop {l:List Int} (h:Cd.isB l) (k:Nat):Cd.isB (l.drop k):=fun x hx=>h x (List.mem_of_mem_drop hx)
set_option maxHeartbeats 2000000 in
theorem Get_any (A:Option Addr) (n c:Nat) (b:List Int) (w:World) (hn:n=b.length) (hc:n≤c) (hc2:c≤maxLen) (hx:Rd w w.heap.size A (b.map (Value.int .u8))) (hB:Cd.isB b) (hs:n≤1000000):
  Calls Try.prog 24 #[.slice A n c] w (GetPost b w):=by
 subst hn
 obtain ⟨i0,hi0,hz0,hs0,hb0⟩:=info_parts infoI
 unfold maxLen at hc2
 go_enter Try.func24,Try.ntmps24
 go_wp2
 go_loopw [0,4] (fun u v wr=> ∃ (A:Option Addr) (m c:Nat) (rest acc:List Int),u= .slice A m c∧m=rest.length∧m≤c∧c≤9223372036854775807∧Rd w w.heap.size A (rest.map (Value.int .u8))∧Cd.isB rest∧m≤b.length∧
   wr.ownsRow w.heap.size 3 1 v acc.length (acc.map (Value.int .i64))∧acc.length+m≤b.length∧Below w.heap.size w wr∧Cd.getL b=(Cd.getL rest).map (acc++ ·)) (fun u _ _=>(match u with | .slice _ m _=>m |_=>0))
 case atStart=>exact ⟨A,b.length,c,b,[],rfl,rfl,hc,by omega,hx,hB,by omega,by simpa using World.ownsRow_nil _ _ _ _,by simp,Below.refl _ _,by simp⟩
 case round=>
  obtain ⟨A2,m,c2,rest,acc,rfl,hm,hmc,hc3,hx2,hB2,hmb,hown,hacc,hbw,hg⟩:=hrel
  have HG:=Lib.hid hg
  clear hg
  have hbs:=hbw.size
  cases hr:rest with
  |nil=>
   subst hr
   subst hm
   go_wp2
   go_ret2
   refine GetPost.yes (l:=acc) ?_ rfl hown hbw
   have:=HG.out
   rw [this];simp [Cd.getL_nil]
  |cons x r=>
   have hne:rest≠[]:=by rw [hr];simp
   have hpos:0<m:=by rw [hm,hr];simp
   clear hr
   have HM:=Lib.hid hm
   clear hm
   have hxr:=hx2.below hbw (Nat.le_refl _)
   cases hf:Cd.fst1 rest with
   |none=>
    have HF:=Lib.hid hf
    clear hf
    go_wp2_with (go_at_call 43;refine (first_any A2 _ m c2 rest _ HM.out hmc hxr hB2 hne).mono ?_;intro e w' hp;obtain ⟨a1,c1,rfl,rfl⟩:=fst_none HF.out hp;clear hp)
    go_ret2
    refine GetPost.no ?_ rfl rfl hbw
    have:=HG.out
    rw [this,Cd.getL_none hne HF.out];rfl
   |some p=>
    obtain ⟨q,k⟩:=p
    have hk:=Cd.fst1_size hf
    have HF:=Lib.hid hf
    clear hf
    obtain ⟨hk1,hk2,hk3⟩:=hk
    have HK3:=Lib.hid hk3
    clear hk3
    have hk4:k≤m:=by rw [HM.out];exact hk2
    have hacc2:acc.length≤1000000:=by omega
    go_wp2_with (first
     | (go_at_call 43;refine (first_any A2 _ m c2 rest _ HM.out hmc hxr hB2 hne).mono ?_;intro e w' hp;obtain ⟨rfl,rfl⟩:=fst_some HF.out hp;clear hp)
     | (at_builtin;refine wp_app1 _ rfl (.tmp 19) (.tmp 21) _ rfl w.heap.size 3 i0 _ 8 Try.underlying22 hi0 hz0 hs0 hb0 rfl _ _ _ rfl hown _ rfl rfl (by omega) (by omega) hbs ?_;intro v3 w3 hown3 hb3))
    go_round
    case rel=>
     have hm:=HM.out
     refine ⟨_,m-k,c2-k,rest.drop k,acc++[q],rfl,by rw [List.length_drop];omega,by omega,by omega, ?_,isB_drop hB2 k,by omega, ?_,by simp;omega,hbw.trans hb3,Cd.getL_acc HG.out HF.out⟩
     ·have:=hx2.drop (k:=k) (n:=m) (cap:=c2) (by rw [List.length_map];exact hm) hk4 hmc
      rwa [←List.map_drop] at this
     ·simpa using hown3
    case measure=>simp;omega
end
end Go.Proofs.Ytfjapapiappacaa
namespace Go.Proofs.Ytfjapapiappacaa
section
open Go.RowKit
theorem byteAt_p (m:Int) (k:Nat) (h0:0≤m) (h1:m<9223372036854775808):m/2^(8*(7-k))%256=Cd.byteAt m k:=by
 rw [←byteAt_w,IntKind.wrap_u64,Int.emod_eq_of_lt h0 (by omega)]
set_option maxHeartbeats 2000000 in
theorem rPut_any (A:Option Addr) (n c:Nat) (l:List Int) (w:World) (hn:n=l.length) (hx:Rd w w.heap.size A (l.map (Value.int .i64))) (hl:Cd.isI l) (hs:n≤1000000):
  Calls Try.prog 9 #[.slice A n c] w (RetOwn w.heap.size 5 ((Cd.putL l).map (Value.int .u8)) w):=by
 subst hn
 obtain ⟨i0,hi0,hz0,hs0,hb0⟩:=info_parts infoB
 go_enter Try.func9,Try.ntmps9
 go_wp2
 go_loopw [3,4] (fun v i wr=> ∃ k:Nat,k≤l.length∧i= .int .i64 k∧wr.ownsRow w.heap.size 5 1 v ((Cd.putL (l.take k)).map (Value.int .u8)).length ((Cd.putL (l.take k)).map (Value.int .u8))∧Below w.heap.size w wr) (fun _ i _=>l.length-(intOf i).toNat)
 case atStart=>exact ⟨0,by omega,rfl,by simpa [Cd.putL] using World.ownsRow_nil _ _ _ _,Below.refl _ _⟩
 case round=>
  obtain ⟨k,hk,rfl,hown2,hb2⟩:=hrel
  have hs2:=hb2.size
  by_cases hlt:k<l.length
  ·have hx2:=hx.below hb2 (by omega)
   obtain ⟨ad,rfl,hb,hc⟩:=hx2.at_ (k:=k) hlt
   obtain ⟨z1,z2⟩:=isI_at hl hlt
   have hlen:((Cd.putL (l.take k)).map (Value.int .u8)).length≤9000000:=by
    rw [List.length_map]
    have:=Cd.putL_len_le (l.take k)
    rw [List.length_take] at this
    omega
   have hst:=take_snoc l k hlt
   generalize l.getD k 0=m at hc z1 z2 hst
   have hst2:(Cd.putL (l.take (k+1))).map (Value.int .u8)=(Cd.putL (l.take k)).map (Value.int .u8)++(Cd.putN m).map (Value.int .u8):=by rw [hst,Cd.putL_snoc,List.map_append]
   have HST:=Lib.hid hst2
   clear hst hst2
   generalize hX:(Cd.putL (l.take k)).map (Value.int .u8)=X at hown2 hlen HST
   clear hX
   cases hnr:Cd.nrB m
   ·have hp:(Cd.putN m).map (Value.int .u8)=[Value.int .u8 255]++(Cd.eight m).map (Value.int .u8):=by simp [Cd.putN,hnr]
    have HP:=Lib.hid hp
    have hm:=Cd.nrB_not.1 hnr
    clear hp hnr
    by_cases hm1: -1≤m
    all_goals
     first | (have hm2:253<m:=by omega)| (have hm2:m< -1:=by omega)
     clear hm
     obtain ⟨wo,rfl⟩: ∃ wo:World,wo=wr:=⟨_,rfl⟩
     go_wp2_with (at_builtin;refine wp_app1 _ rfl (.tmp 29) (.tmp 30) _ rfl w.heap.size 5 i0 _ 1 Try.underlying33 hi0 hz0 hs0 hb0 rfl _ _ _ rfl hown2 (.int .u8 255) rfl rfl (by omega) (by omega) hs2 ?_;intro v1 w1 hown1 hb1)
     go_loopw [3,6] (fun v i w4=> ∃ j:Nat,j≤8∧i= .int .i64 (7-j)∧w4.ownsRow w.heap.size 5 1 v (X.length+1+j) ((X++[Value.int .u8 255])++((Cd.eight m).take j).map (Value.int .u8))∧Below w.heap.size wo w4) (fun _ i _=>(intOf i+1).toNat)
     case atStart=>exact ⟨0,by omega,rfl,by simpa using hown1,hb1⟩
     case round=>
      obtain ⟨j,hj,rfl,hown5,hb5⟩:=hrel
      have hs5:=hb5.size
      by_cases hjt:j<8
      ·go_wp2_with (at_builtin;refine wp_app1 _ rfl (.tmp 36) (.tmp 44) _ rfl w.heap.size 5 i0 _ 1 Try.underlying33 hi0 hz0 hs0 hb0 rfl _ _ _ rfl hown5 _ rfl rfl (by omega) (by omega) (by omega) ?_;intro v6 w6 hown6 hb6)
       go_round
       case rel=>
        refine ⟨j+1,by omega,by go_num, ?_,hb5.trans hb6⟩
        rw [eight_snoc m j hjt,List.map_append,List.map_cons,List.map_nil, ←List.append_assoc]
        first |rw [byteAt_w] at hown6 |rw [byteAt_p m j (by omega) (by omega)] at hown6
        exact hown6
       case measure=>simp [intOf];omega
      ·have:j=8:=by omega
       subst this
       go_wp2
       go_round
       case rel=>
        refine ⟨k+1,by omega,by go_num, ?_,hb2.trans hb5⟩
        rw [HST.out,HP.out]
        rw [List.take_of_length_le (by rw [Cd.eight_len];omega),List.append_assoc] at hown5
        have:=own_len hown5
        rw [this];exact hown5
       case measure=>simp [intOf];omega
   ·have hm:=Cd.nrB_iff.1 hnr
    obtain ⟨hm1,hm2⟩:=hm
    have hp:(Cd.putN m).map (Value.int .u8)=[Value.int .u8 (m+1)]:=by simp [Cd.putN,hnr]
    have HP:=Lib.hid hp
    clear hp hnr
    go_wp2_with (at_builtin;refine wp_app1 _ rfl (.tmp 23) (.tmp 27) _ rfl w.heap.size 5 i0 _ 1 Try.underlying33 hi0 hz0 hs0 hb0 rfl _ _ _ rfl hown2 (.int .u8 (m+1)) rfl rfl (by omega) (by omega) hs2 ?_;intro v1 w1 hown1 hb1)
    go_round
    case rel=>exact ⟨k+1,by omega,by go_num,by rw [HST.out,HP.out];simpa using hown1,hb2.trans hb1⟩
    case measure=>simp [intOf];omega
  ·go_wp2
   go_ret
   have hk:k=l.length:=by omega
   subst hk
   rw [List.take_of_length_le (by omega)] at hown2
   exact ⟨_,rfl,hown2,hb2⟩
end
end Go.Proofs.Ytfjapapiappacaa
namespace Go.Proofs.Ytfjapapiappacaa.Px
section
open Go.RowKit Go.Proofs.Ytfjapapiappacaa.Rx
section
variable {P:Program}
theorem PureC.ofOwnT {f:FuncId} {args:List AV} {t:TypeId} {k:IntKind} {l:List Int} {n:Nat} {g:Nat→Nat→AV} (hn:n=l.length) (hg: ∀ i,i<n→g i 0= .int k (l.getD i 0))
  (h: ∀ (w:World) (R:Nat→Prop) (vs:Array Value),(∀ g,R g→g<w.heap.size)→args.length=vs.size→(∀ (j:Nat) a v,args[j]? =some a→vs[j]? =some v→RepP w R a v)→Calls P f vs w fun e w'=> ∃ v,e= .returned (.tuple #[v, .bool true])∧w'.ownsRow w.heap.size t 1 v l.length (l.map (Value.int k))∧Below w.heap.size w w'):
  PureC P f args (.tup [.own 0 0 1 0 n, .bool true]) [⟨0,false,t, .rows 1 n g⟩]:=by
 subst hn
 intro w R vs hR hl ha
 refine (h w R vs hR hl ha).mono ?_
 rintro e w' ⟨v,rfl,hown,hb⟩
 have hR': ∀ g,R g→g<w'.heap.size:=fun g hg=>Nat.lt_of_lt_of_le (hR g hg) hb.size
 rcases hown.2 with ⟨rfl,h0⟩|⟨gg,cap,cur,rfl,hge,hh,hnc,hcm,hsz,htk⟩
 ·refine ⟨_,⟨w',R,fun _=>none,fun i=>[(⟨0,false,t, .rows 1 l.length g⟩:Blk)][i]?,fun g=>g<w.heap.size⟩,rfl,rfl,rfl,⟨fun id b hb'=> ?_,fun _ _ _ _ _ _ _ h1 _=>(by cases h1),hR',fun g hg=>Nat.lt_of_lt_of_le hg hb.size⟩,rfl,fun _ h=>h,fun _ h=> .inl h,hb, ?_⟩
  ·cases id with
   |zero=>
    simp only [List.getElem?_cons_zero,Option.some.injEq] at hb'
    subst hb'
    exact .inl ⟨rfl,h0⟩
   |succ i=>simp at hb'
  ·refine .tup rfl fun j a v ha hv=> ?_
   match j,ha,hv with
   |0,rfl,rfl=>exact .own (b:=⟨0,false,t, .rows 1 l.length g⟩) rfl (Nat.le_refl _) rfl fun _=>⟨l.length,g,rfl,by omega, .inl ⟨rfl,rfl,h0,rfl⟩⟩
   |1,rfl,rfl=>exact .pure (.bool _)
 ·have hlt:gg<w'.heap.size:=(Array.getElem?_eq_some_iff.1 hh).1
  refine ⟨_,⟨w',R,fun i=>if i=0 then some (gg,cap) else none,fun i=>[(⟨0,false,t, .rows 1 l.length g⟩:Blk)][i]?,fun g=>g<w.heap.size⟩,rfl,rfl,rfl,⟨fun id b hb'=> ?_,fun i j _ _ _ _ _ h1 h2=> ?_,hR',fun g hg=>Nat.lt_of_lt_of_le hg hb.size⟩,rfl,fun _ h=>h,fun _ h=> .inl h,hb, ?_⟩
  ·cases id with
   |zero=>
    simp only [List.getElem?_cons_zero,Option.some.injEq] at hb'
    subst hb'
    refine .inr ⟨gg,cap,cur,rfl,hh,hsz,hnc,hcm,fun i hi j hj=> ?_,Nat.not_lt.2 hge, ?_⟩
    ·obtain rfl:j=0:=by omega
     have h5:cur.toList[i]? =some (.int k (l.getD i 0)):=by
      have:=congrArg (fun (x:List Value)=>x[i]?) htk
      simp only [List.getElem?_map] at this
      rw [List.getElem?_take,if_pos (by omega)] at this
      rw [this]
      simp [List.getD,hi]
     refine ⟨.int k (l.getD i 0), ?_,rfl, ?_⟩
     ·rw [←Array.getElem?_toList,show i*1+0=i by omega]
      exact h5
     ·rw [hg i hi]
      exact .int _ _
    ·show ¬R gg
     intro hr
     have:=hR gg hr
     omega
   |succ i=>simp at hb'
  ·simp only at h1 h2
   split at h1
   ·split at h2
    ·omega
    ·cases h2
   ·cases h1
  ·refine .tup rfl fun j a v ha hv=> ?_
   match j,ha,hv with
   |0,rfl,rfl=>
    refine .own (b:=⟨0,false,t, .rows 1 l.length g⟩) rfl (Nat.le_refl _) rfl fun _=>⟨l.length,g,rfl,by omega, .inr ⟨gg,cap,rfl, ?_⟩⟩
    simp
   |1,rfl,rfl=>exact .pure (.bool _)
end
def blkB (l:List Int):Blk:=⟨0,false,5, .rows 1 l.length (rowB l)⟩
def bR (l:List Int):AV:= .row 1 l.length (rowB l)
theorem getC (b l:List Int) (hB:Cd.isB b) (hs:b.length≤1000000) (h:Cd.getL b=some l):PureC Try.prog 24 [.row 1 b.length (rowB b)] (.tup [.own 0 0 1 0 l.length, .bool true]) [blkI l]:=
 PureC.ofOwnT (k:= .i64) (l:=l) rfl (fun _ _=>rfl) fun w R vs hR hn ha=>by
  obtain ⟨v,rfl,hv⟩:=one_arg rfl hn ha
  obtain ⟨A,c,rfl,hnc,hcm,hr⟩:=hv.ints hR rfl (fun _ _=>rfl)
  refine (Get_any A _ c b w rfl hnc hcm hr hB hs).mono ?_
  rintro e w' ⟨hb,h2⟩
  rw [h] at h2
  obtain ⟨v,rfl,h3⟩:=h2
  exact ⟨v,rfl,h3,hb⟩
theorem getC_n (b:List Int) (hB:Cd.isB b) (hs:b.length≤1000000) (h:Cd.getL b=none):PureC Try.prog 24 [.row 1 b.length (rowB b)] (.tup [.nils, .bool false]) []:=by
 intro w R vs hR hn ha
 obtain ⟨v,rfl,hv⟩:=one_arg rfl hn ha
 obtain ⟨A,c,rfl,hnc,hcm,hr⟩:=hv.ints hR rfl (fun _ _=>rfl)
 refine (Get_any A _ c b w rfl hnc hcm hr hB hs).mono ?_
 rintro e w' ⟨hb,h2⟩
 rw [h] at h2
 obtain rfl:=h2
 refine ⟨_,⟨w',R,fun _=>none,fun i=>([]:List Blk)[i]?,fun g=>g<w.heap.size⟩,rfl,rfl,rfl,⟨fun id b hb'=> ?_,fun _ _ _ _ _ _ _ h1 _=>(by cases h1),fun g hg=>Nat.lt_of_lt_of_le (hR g hg) hb.size,fun g hg=>Nat.lt_of_lt_of_le hg hb.size⟩,rfl,fun _ h=>h,fun _ h=> .inl h,hb, ?_⟩
 ·simp at hb'
 ·refine .tup rfl fun j a v ha hv=> ?_
  match j,ha,hv with
  |0,rfl,rfl=>exact .pure .nils
  |1,rfl,rfl=>exact .pure (.bool _)
theorem putC {a:AV} {l:List Int} (h:PartOk a l) (hl:l.length≤1000000) (hi:Cd.isI l):PureC Try.prog 42 [a] (.own 0 0 1 0 (Cd.putL l).length) [blkB (Cd.putL l)]:=
 PureC.ofOwn (k:= .u8) (l:=Cd.putL l) rfl (fun _ _=>rfl) fun w R vs hR hn ha=>by
  obtain ⟨v,rfl,hv⟩:=one_arg rfl hn ha
  obtain ⟨A,c,rfl,hr⟩:=h.rep hv hR
  exact Put_any A _ c l w rfl hr hi hl
theorem rputC {a:AV} {l:List Int} (h:PartOk a l) (hl:l.length≤1000000) (hi:Cd.isI l):PureC Try.prog 9 [a] (.own 0 0 1 0 (Cd.putL l).length) [blkB (Cd.putL l)]:=
 PureC.ofOwn (k:= .u8) (l:=Cd.putL l) rfl (fun _ _=>rfl) fun w R vs hR hn ha=>by
  obtain ⟨v,rfl,hv⟩:=one_arg rfl hn ha
  obtain ⟨A,c,rfl,hr⟩:=h.rep hv hR
  exact rPut_any A _ c l w rfl hr hi hl
end
end Go.Proofs.Ytfjapapiappacaa.Px
namespace Go.Proofs.Ytfjapapiappacaa.Px
section
open Go.RowKit Go.Proofs.Ytfjapapiappacaa.Rx
theorem par_n (b:List Int) (h:PureC Try.prog 24 [bR b] (.tup [.nils, .bool false]) []):Vc (vcFn Try.prog false 8 [bR b] [.cl [bR b] (.tup [.nils, .bool false]) [], .b true] [] (.tup [.agg (cfA Cf0), .bool false]) []):=vc_by (cj (rf b.length) (cj (rr b.length 1 fun i j=>AV.int IntKind.u8 (b.getD i 0)) (cj h (cj (rf true) (cj (rf (0:Int)) (cj (rf (0:Int)) (cj (rf (0:Int)) (cj (rf (0:Int)) (cj (rf (0:Nat)) (cj (rf (0:Nat)) (cj (rf (0:Int)) (cj (rf (0:Nat)) (cj (rf (0:Nat)) (cj (rf (0:Int)) (cj (rf false) trivial))))))))))))))) (by kernel_rfl)
theorem zC40 {Z:Prop} (z:Z):(RF (0:Int) (RF (0:Int) (RF (0:Int) (RF (0:Int) (RF (0:Nat) (RF (0:Nat) (RF (0:Int) (RF (0:Nat) (RF (0:Nat) Z))))))))):=⟨rfl,rfl,rfl,rfl,rfl,rfl,rfl,rfl,rfl,z⟩
theorem zC41 (l:List Int) {Z:Prop} (z:Z):(RF false (RF l.length (RR l.length 1 (fun i j=>aI (l.getD i 0)) (RF false Z)))):=⟨rfl,rfl,fun _ _ _ _=>rfl,rfl,z⟩
abbrev qC40 (b:List Int) (l:List Int):Prop:=PureC Try.prog 24 [bR b] (.tup [lR l, .bool true]) []
theorem par_w (b l l1:List Int) (c:Cf) (h:qC40 b l) (hk:KeepC Try.prog 25 [.bptr 0 0] 70 (rdA l false) (.agg (s8A c.s (.own 1 0 1 0 c.s.m.length) (.own 2 0 1 0 c.s.st.length)++[.own 3 0 8 0 c.b.length, .own 4 0 1 0 c.r.length, .int .i64 c.e])) (rdA l1 true) [blkI c.s.m,blkI c.s.st,enB c.b,blkI c.r]):Vc (vcFn Try.prog false 8 [bR b] [.cl [bR b] (.tup [lR l, .bool true]) [], .b false, .ck [.bptr 0 0] 1 70 (rdA l false) (.agg (s8A c.s (.own 1 0 1 0 c.s.m.length) (.own 2 0 1 0 c.s.st.length)++[.own 3 0 8 0 c.b.length, .own 4 0 1 0 c.r.length, .int .i64 c.e])) (rdA l1 true) [blkI c.s.m,blkI c.s.st,enB c.b,blkI c.r]] [] (.tup [.agg (cfA Cf0), .bool false]) []):=vc_by (cj (rf b.length) (cj (rr b.length 1 fun i j=>AV.int IntKind.u8 (b.getD i 0)) (cj h (zC41 l (cj hk (zC40 (cj (rf (0:Int)) (cj (rf false) trivial)))))))) (by kernel_rfl)
abbrev qC41 (l:List Int) (l1:List Int) (c:Cf):Prop:=KeepC Try.prog 25 [.bptr 0 0] 70 (rdA l false) (.agg (s8A c.s (.own 1 0 1 0 c.s.m.length) (.own 2 0 1 0 c.s.st.length)++[.own 3 0 8 0 c.b.length, .own 4 0 1 0 c.r.length, .int .i64 c.e])) (rdA l1 false) [blkI c.s.m,blkI c.s.st,enB c.b,blkI c.r]
theorem par_l (b l l1:List Int) (c:Cf) (h1:l1.length≠0) (h:qC40 b l) (hk:qC41 l l1 c):Vc (vcFn Try.prog false 8 [bR b] [.cl [bR b] (.tup [lR l, .bool true]) [], .b false, .ck [.bptr 0 0] 1 70 (rdA l false) (.agg (s8A c.s (.own 1 0 1 0 c.s.m.length) (.own 2 0 1 0 c.s.st.length)++[.own 3 0 8 0 c.b.length, .own 4 0 1 0 c.r.length, .int .i64 c.e])) (rdA l1 false) [blkI c.s.m,blkI c.s.st,enB c.b,blkI c.r], .bd true] [] (.tup [.agg (cfA Cf0), .bool false]) []):=vc_by (cj (rf b.length) (cj (rr b.length 1 fun i j=>AV.int IntKind.u8 (b.getD i 0)) (cj h (zC41 l (cj hk (cj (dt ((l1.length:Int)>0)) (zC40 (cj (rf (0:Int)) (cj (rf false) trivial))))))))) (by kernel_rfl)
theorem par_y (b l l1:List Int) (c:Cf) (h1:l1.length=0) (h:qC40 b l) (hk:qC41 l l1 c):Vc (vcFn Try.prog false 8 [bR b] [.cl [bR b] (.tup [lR l, .bool true]) [], .b false, .ck [.bptr 0 0] 1 70 (rdA l false) (.agg (s8A c.s (.own 1 0 1 0 c.s.m.length) (.own 2 0 1 0 c.s.st.length)++[.own 3 0 8 0 c.b.length, .own 4 0 1 0 c.r.length, .int .i64 c.e])) (rdA l1 false) [blkI c.s.m,blkI c.s.st,enB c.b,blkI c.r], .bd false] [(0,2),(1,3),(2,4),(3,5)] (.tup [.agg (s8A c.s (.own 0 0 1 0 c.s.m.length) (.own 1 0 1 0 c.s.st.length)++[.own 2 0 8 0 c.b.length, .own 3 0 1 0 c.r.length, .int .i64 c.e]), .bool true]) [blkI c.s.m,blkI c.s.st,enB c.b,blkI c.r]):=vc_by (cj (rf b.length) (cj (rr b.length 1 fun i j=>AV.int IntKind.u8 (b.getD i 0)) (cj h (zC41 l (cj hk (cj (df ((l1.length:Int)>0)) (cj (rf c.s.m.length) (cj (rr c.s.m.length 1 fun i j=>aI (List.getD c.s.m i (0:Int))) (cj (rf c.s.st.length) (cj (rr c.s.st.length 1 fun i j=>aI (List.getD c.s.st i (0:Int))) (cj (rf c.b.length) (cj (rr c.b.length 8 fun i j=>rowL enC c.b i j) (cj (rf c.r.length) (cj (rr c.r.length 1 fun i j=>aI (c.r.getD i 0)) (cj (rf c.s.r0) (cj (rf c.s.r1) (cj (rf c.s.r2) (cj (rf c.s.r3) (cj (rf (0:Nat)) (cj (rf c.s.m.length) (cj (rf (0:Nat)) (cj (rf c.s.st.length) (cj (rf c.s.pc) (cj (rf (0:Nat)) (cj (rf c.b.length) (cj (rf (0:Nat)) (cj (rf c.r.length) (cj (rf c.e) (cj (rf true) trivial))))))))))))))))))))))))))))) (by kernel_rfl)
def parL (l:List Int):Option Cf:=if (Rs.mk l false).cs.w=false∧(Rs.mk l false).cs.l.length=0 then some (Rs.mk l false).cf else none
def parB (b:List Int):Option Cf:=(Cd.getL b).bind parL
theorem parO (b:List Int) (c:Cf) (hB:Cd.isB b) (hs:b.length<1000000) (h:parB b=some c):PureC Try.prog 8 [bR b] (.tup [.agg (s8A c.s (.own 0 0 1 0 c.s.m.length) (.own 1 0 1 0 c.s.st.length)++[.own 2 0 8 0 c.b.length, .own 3 0 1 0 c.r.length, .int .i64 c.e]), .bool true]) [blkI c.s.m,blkI c.s.st,enB c.b,blkI c.r]:=by
 unfold parB at h
 cases hg:Cd.getL b with
 |none=>rw [hg] at h;cases h
 |some l=>
  rw [hg] at h
  have hl:=Cd.getL_len hg
  have hG:=(getC b l hB (Nat.le_of_lt hs) hg).frozenT
  have hk:=cnfC ⟨l,false⟩ (show l.length<1000000 by omega)
  have h:parL l=some c:=h
  unfold parL at h
  split at h
  ·rename_i hc
   obtain rfl:=Option.some.inj h
   obtain ⟨hc1,hc2⟩:=hc
   rw [hc1] at hk
   exact PureC.vc (par_y b l _ _ hc2 hG hk)
  ·cases h
theorem parN (b:List Int) (hB:Cd.isB b) (hs:b.length<1000000) (h:parB b=none):PureC Try.prog 8 [bR b] (.tup [.agg (cfA Cf0), .bool false]) []:=by
 unfold parB at h
 cases hg:Cd.getL b with
 |none=>exact PureC.vc (par_n b (getC_n b hB (Nat.le_of_lt hs) hg))
 |some l=>
  rw [hg] at h
  have hl:=Cd.getL_len hg
  have hG:=(getC b l hB (Nat.le_of_lt hs) hg).frozenT
  have hk:=cnfC ⟨l,false⟩ (show l.length<1000000 by omega)
  have h:parL l=none:=h
  unfold parL at h
  split at h
  ·cases h
  ·rename_i hc
   cases hw:(Rs.mk l false).cs.w with
   |true=>
    rw [hw] at hk
    exact PureC.vc (par_w b l _ _ hG hk)
   |false=>
    rw [hw] at hk
    exact PureC.vc (par_l b l _ _ (fun e=>hc ⟨hw,e⟩) hG hk)
theorem parF (b:List Int) (c:Cf) (hB:Cd.isB b) (hs:b.length<1000000) (h:parB b=some c):PureC Try.prog 8 [bR b] (.tup [.agg (cfA c), .bool true]) []:=(parO b c hB hs h).frozenT
end
end Go.Proofs.Ytfjapapiappacaa.Px
namespace Go.Proofs.Ytfjapapiappacaa.Px
section
open Go.RowKit Go.Proofs.Ytfjapapiappacaa.Rx
def xcS (A B:AV) (k:Nat):Sm:=⟨[(0,A),(1,B),(5, .int .i64 k),(4, .bool false)],[],0⟩
def xfS:Sm:=⟨[(4, .bool false)],[],0⟩
theorem gd_ext {α:Type} {d:α} {a b:List α} (hl:a.length=b.length) (h: ∀ i,i<a.length→a.getD i d=b.getD i d):a=b:=by
 apply List.ext_getElem hl
 intro i h1 h2
 have:=h i h1
 simpa [List.getD,h1,h2] using this
theorem zN00 (a:List Int) (b:List Int) {Z:Prop} (z:Z):(RF a.length (RR a.length 1 (fun i j=>aI (a.getD i 0)) (RF b.length (RR b.length 1 (fun i j=>aI (b.getD i 0)) Z)))):=⟨rfl,fun _ _ _ _=>rfl,rfl,fun _ _ _ _=>rfl,z⟩
theorem nsi_y (a b:List Int) (k:Nat) (hl:a.length=b.length) (hk:k<a.length) (hb:a.length<1000000000) (he:(a.getD k 0)=(b.getD k 0)):Vc (vcC Try.prog false (ntOf Try.prog 11) (lpC Try.prog 11 0) (xcS (lR a) (lR b) k) [.bd true, .bd false] .nrm [] (xcS (lR a) (lR b) (k+1))):=vc_by (cj (dt ((k:Int)<(a.length:Int))) (cj (bi (k:Int) (a.length:Int)) (cj (bi (k:Int) (b.length:Int)) (cj (show (a.getD k 0 !=b.getD k 0)=false from by rw [he];simp) (cj (i6 ((k:Int)+1)) (zN00 a b (cj (rf ((k:Int)+1)) (cj (rf false) trivial)))))))) (by kernel_rfl)
theorem nsi_n (a b:List Int) (k:Nat) (hl:a.length=b.length) (hk:k<a.length) (hb:a.length<1000000000) (he:(a.getD k 0)≠(b.getD k 0)):Vc (vcC Try.prog false (ntOf Try.prog 11) (lpC Try.prog 11 0) (xcS (lR a) (lR b) k) [.bd true, .bd true] .ret [] xfS):=vc_by (cj (dt ((k:Int)<(a.length:Int))) (cj (bi (k:Int) (a.length:Int)) (cj (bi (k:Int) (b.length:Int)) (cj (bne_iff_ne.2 he) (cj (rf false) trivial))))) (by kernel_rfl)
theorem nsi_e (a b:List Int) (k:Nat) (hl:a.length=b.length) (hk: ¬k<a.length) (hk2:k<1000000000):Vc (vcC Try.prog false (ntOf Try.prog 11) (lpC Try.prog 11 0) (xcS (lR a) (lR b) k) [.bd false] (.ext 0) [] (xcS (lR a) (lR b) k)):=vc_by (cj (df ((k:Int)<(a.length:Int))) (zN00 a b (cj (rf (k:Int)) (cj (rf false) trivial)))) (by kernel_rfl)
theorem nsi_all (a b:List Int) (hl:a.length=b.length) (hb:a.length<1000000000) (h: ∀ i,i<a.length→a.getD i 0=b.getD i 0): ∀ j k,k+j=a.length→OkL Try.prog (ntOf Try.prog 11) (lpC Try.prog 11 0) (xcS (lR a) (lR b) k).st (.ext 0) (xcS (lR a) (lR b) a.length).st
 |0,k,hk=>by
  obtain rfl:k=a.length:=by omega
  exact OkL.exit (Ok.vc (nsi_e a b _ hl (Nat.lt_irrefl _) hb)) (by simp)
 |j+1,k,hk=>OkL.step (Ok.vc (nsi_y a b k hl (by omega) hb (h k (by omega)))) (nsi_all a b hl hb h j (k+1) (by omega))
theorem nsi_dif (a b:List Int) (hl:a.length=b.length) (hb:a.length<1000000000): ∀ j k,k+j=a.length→(∃ i,k≤i∧i<a.length∧a.getD i 0≠b.getD i 0)→OkL Try.prog (ntOf Try.prog 11) (lpC Try.prog 11 0) (xcS (lR a) (lR b) k).st .ret (xfS).st
 |0,k,hk,h=>by obtain ⟨i,h1,h2,_⟩:=h;omega
 |j+1,k,hk,h=>by
  by_cases he:(a.getD k 0)=(b.getD k 0)
  ·obtain ⟨i,h1,h2,h3⟩:=h
   have:i≠k:=fun e=>by subst e;exact h3 he
   exact OkL.step (Ok.vc (nsi_y a b k hl (by omega) hb he)) (nsi_dif a b hl hb j (k+1) (by omega) ⟨i,by omega,h2,h3⟩)
  ·exact OkL.exit (Ok.vc (nsi_n a b k hl (by omega) hb he)) (by simp)
theorem nsi_l (a b:List Int) (hl: ¬a.length=b.length):Vc (vcFn Try.prog false 11 [lR a,lR b] [.bd true] [] (.bool false) []):=vc_by (cj (show ((a.length:Int) !=(b.length:Int))=true from (bne_iff_ne.2 (by omega))) (cj (rf false) trivial)) (by kernel_rfl)
theorem zN01 (a:List Int) (b:List Int) {Z:Prop} (z:Z):(RF a.length (RR a.length 1 (fun i j=>aI (a.getD i 0)) (RF b.length (RR b.length 1 (fun i j=>aI (b.getD i 0)) (RF (0:Int) (RF false Z)))))):=⟨rfl,fun _ _ _ _=>rfl,rfl,fun _ _ _ _=>rfl,rfl,rfl,z⟩
theorem nsi_t (a b:List Int) (n:Nat) (hl:a.length=b.length) (h:Ok Try.prog (ntOf Try.prog 11) (.loop (lpC Try.prog 11 0)) (xcS (lR a) (lR b) 0).st (.ext 0) (xcS (lR a) (lR b) n).st):Vc (vcFn Try.prog false 11 [lR a,lR b] [.bd false, .lp [] (xcS (lR a) (lR b) 0) (.ext 0) (xcS (lR a) (lR b) n)] [] (.bool true) []):=vc_by (cj (show ((a.length:Int) !=(b.length:Int))=false from (bne_eq_false_iff_eq.2 (by omega))) (zN01 a b (cj h (cj (rf true) trivial)))) (by kernel_rfl)
theorem nsi_f (a b:List Int) (hl:a.length=b.length) (h:Ok Try.prog (ntOf Try.prog 11) (.loop (lpC Try.prog 11 0)) (xcS (lR a) (lR b) 0).st .ret (xfS).st):Vc (vcFn Try.prog false 11 [lR a,lR b] [.bd false, .lp [] (xcS (lR a) (lR b) 0) .ret xfS] [] (.bool false) []):=vc_by (cj (show ((a.length:Int) !=(b.length:Int))=false from (bne_eq_false_iff_eq.2 (by omega))) (zN01 a b (cj h (cj (rf false) trivial)))) (by kernel_rfl)
theorem nsiC (a b:List Int) (hb:a.length<1000000000):PureC Try.prog 11 [lR a,lR b] (.bool (decide (a=b))) []:=by
 by_cases hl:a.length=b.length
 ·by_cases h: ∀ i,i<a.length→a.getD i 0=b.getD i 0
  ·rw [decide_eq_true (gd_ext hl h)]
   exact PureC.vc (nsi_t a b _ hl (nsi_all a b hl hb h a.length 0 (by omega)).ok)
  ·rw [decide_eq_false (fun e=>h fun i _=>by rw [e])]
   refine PureC.vc (nsi_f a b hl (nsi_dif a b hl hb a.length 0 (by omega) ?_).ok)
   apply Classical.byContradiction
   intro hn
   exact h fun i hi=>Classical.byContradiction fun he=>hn ⟨i,Nat.zero_le _,hi,he⟩
 ·rw [decide_eq_false (fun e=>hl (by rw [e]))]
  exact PureC.vc (nsi_l a b hl)
end
end Go.Proofs.Ytfjapapiappacaa.Px
namespace Go.Proofs.Ytfjapapiappacaa.Px
section
open Go.RowKit Go.Proofs.Ytfjapapiappacaa.Rx
structure EnOk (p:Pg) (e:En):Prop where
 pc:0≤e.pc∧e.pc≤p.is.length
 val:0≤e.val∧e.val<65536
 frm: -1≤e.frm∧e.frm≤1000000
 nxt: -1≤e.nxt∧e.nxt≤p.is.length
 adr:0≤e.adr∧e.adr<65536
def rOk (p:Pg) (st:List Int) (b:List En) (k:Nat):Prop:= ∃ L,reG p b 0 k st=some L∧L.length≠0
def lOk (p:Pg) (st:List Int) (b:List En) (k:Nat):Prop:= ∃ L,reG p b 0 k st=some L∧L.length<4
structure EtOk (p:Pg) (m:Nat) (st:List Int) (b:List En) (k:Nat) (e:En):Prop where
 sto:(atI p e.pc).kind=3→e.kn=true→e.ft=false→e.adr<m
 ret:(atI p e.pc).kind=9→e.dn=true→e.ft=false→rOk p st b k
 cal:(atI p e.pc).kind=8→e.ft=false→lOk p st b k
structure Inv (p:Pg) (c:Cf):Prop where
 reg:okR c.s
 mem: ∀ x∈c.s.m,0≤x∧x<65536
 ml:c.s.m.length=sumN p.ms
 pc: -1≤c.s.pc∧c.s.pc≤p.is.length
 st:c.s.st.length≤4
 stk: ∀ x∈c.s.st,0≤x∧x≤p.is.length
 bl:(c.b.length:Int)≤max p.win 0
 be: ∀ e∈c.b,EnOk p e
 rl:c.r.length≤2
 rb: ∀ x∈c.r,0≤x∧x≤p.is.length
 et: ∀ k,k<c.b.length→EtOk p c.s.m.length c.s.st c.b k (c.b.getD k default)
theorem gdE_mem {l:List En} {k:Nat} (h:k<l.length):l.getD k default∈l:=by simp [List.getD,h]
theorem gdE_out {l:List En} {k:Nat} (h: ¬k<l.length):l.getD k default=En0:=by
 simp [List.getD,List.getElem?_eq_none (Nat.not_lt.1 h)];rfl
theorem reG_congr (p:Pg) (l l':List En): ∀ j k k' st,(∀ i,i<j→(l.getD (k+i) default).pc=(l'.getD (k'+i) default).pc)→reG p l k j st=reG p l' k' j st
 |0,_,_,_,_=>rfl
 |j+1,k,k',st,h=>by
  have h0:=h 0 (by omega)
  rw [Nat.add_zero,Nat.add_zero] at h0
  have e:enI p l k=enI p l' k':=by unfold enI;rw [h0]
  have hr: ∀ i,i<j→(l.getD (k+1+i) default).pc=(l'.getD (k'+1+i) default).pc:=fun i hi=>by
   have:=h (i+1) (by omega)
   rw [show k+1+i=k+(i+1) by omega,show k'+1+i=k'+(i+1) by omega];exact this
  have hR:=fun s=>reG_congr p l l' j (k+1) (k'+1) s hr
  unfold reG
  rw [e,h0,hR,hR,hR]
theorem gdE_set {l:List En} {k i:Nat} {e:En} (hk:k<l.length):(l.set k e).getD i default=if i=k then e else l.getD i default:=by
 by_cases h:i=k
 ·subst h;simp [List.getD,hk]
 ·rw [if_neg h];simp [List.getD,List.getElem?_set,Ne.symm h]
theorem gdE_take {l:List En} {n i:Nat} (h:i<n):(l.take n).getD i default=l.getD i default:=by
 rw [List.getD_eq_getElem?_getD,List.getD_eq_getElem?_getD,List.getElem?_take,if_pos h]
theorem reG_pcs (p:Pg) (st:List Int) {l l':List En} {k:Nat} (h: ∀ i,i<k→(l.getD i default).pc=(l'.getD i default).pc):reG p l 0 k st=reG p l' 0 k st:=
 reG_congr p l l' k 0 0 st fun i hi=>by rw [Nat.zero_add];exact h i hi
theorem EtOk.pcs {p:Pg} {m:Nat} {st:List Int} {b b':List En} {k:Nat} {e:En} (h:EtOk p m st b k e) (hp: ∀ i,i<k→(b.getD i default).pc=(b'.getD i default).pc):EtOk p m st b' k e:=by
 have e0:=reG_pcs p st hp
 refine ⟨h.sto,fun a b c=> ?_,fun a b=> ?_⟩
 ·have:=h.ret a b c;unfold rOk at this ⊢;rw [←e0];exact this
 ·have:=h.cal a b;unfold lOk at this ⊢;rw [←e0];exact this
theorem Inv.up {p:Pg} {c:Cf} (h:Inv p c) {k:Nat} (hk:k<c.b.length) {e:En} (hp:e.pc=(c.b.getD k default).pc) (he:EnOk p e) (ht:EtOk p c.s.m.length c.s.st c.b k e):Inv p ⟨c.s,c.b.set k e,c.r,c.e⟩:=by
 have hpc: ∀ i,(c.b.getD i default).pc=((c.b.set k e).getD i default).pc:=fun i=>by
  rw [gdE_set hk]
  split
  ·rename_i hi;rw [hi];exact hp.symm
  ·rfl
 refine ⟨h.reg,h.mem,h.ml,h.pc,h.st,h.stk,by show ((c.b.set k e).length:Int)≤_;rw [List.length_set];exact h.bl,fun x hx=> ?_,h.rl,h.rb,fun j hj=> ?_⟩
 ·rcases List.mem_or_eq_of_mem_set hx with h1 |h1
  ·exact h.be x h1
  ·rw [h1];exact he
 ·have hj:j<c.b.length:=by have:(c.b.set k e).length=c.b.length:=List.length_set;exact this▸hj
  show EtOk p _ _ (c.b.set k e) j ((c.b.set k e).getD j default)
  rw [gdE_set hk]
  split
  ·rename_i hi;rw [hi];exact ht.pcs fun i _=>hpc i
  ·exact (h.et j hj).pcs fun i _=>hpc i
theorem Inv.cut {p:Pg} {c:Cf} (h:Inv p c) (n:Nat) {t:Int} (ht: -1≤t∧t≤p.is.length):Inv p ⟨c.s.go t,c.b.take n,c.r,c.e⟩:=by
 refine ⟨h.reg,h.mem,h.ml,ht,h.st,h.stk, ?_,fun x hx=>h.be x (List.mem_of_mem_take hx),h.rl,h.rb,fun j hj=> ?_⟩
 ·have:=h.bl
  show ((c.b.take n).length:Int)≤_
  rw [List.length_take];omega
 ·have hj:j<min n c.b.length:=by have:(c.b.take n).length=min n c.b.length:=List.length_take;exact this▸hj
  show EtOk p _ _ (c.b.take n) j ((c.b.take n).getD j default)
  rw [gdE_take (by omega)]
  exact (h.et j (by omega)).pcs fun i hi=>by rw [gdE_take (by omega)]
end
end Go.Proofs.Ytfjapapiappacaa.Px
namespace Go.Proofs.Ytfjapapiappacaa.Px
section
open Go.RowKit Go.Proofs.Ytfjapapiappacaa.Rx
theorem valE_bd {l:List En} (h: ∀ e∈l,0≤e.val∧e.val<65536) (k:Nat):0≤(l.getD k default).val∧(l.getD k default).val<65536:=by
 by_cases hk:k<l.length
 ·exact h _ (gdE_mem hk)
 ·rw [gdE_out hk];exact ⟨by decide,by decide⟩
theorem regF_bd {p:Pg} {l:List En} {r:Int} (h: ∀ e∈l,0≤e.val∧e.val<65536): ∀ k x,regF p l r k=some x→0≤x.1∧x.1<65536
 |0,x,e=>by cases e
 |k+1,x,e=>by
  unfold regF at e
  split at e
  ·cases e
   split
   ·exact valE_bd h k
   ·exact ⟨by decide,by decide⟩
  ·exact regF_bd h k x e
theorem reg_bd {s:S8} (h:okR s) (r:Int):0≤s.reg r∧s.reg r<65536:=by
 obtain ⟨h0,h1,h2,h3⟩:=h
 unfold S8.reg
 repeat' split
 all_goals assumption
theorem regV_bd {p:Pg} {s:S8} {l:List En} (hs:okR s) (h: ∀ e∈l,0≤e.val∧e.val<65536) (i r:Int):0≤(regV p s l i r).1∧(regV p s l i r).1<65536:=by
 unfold regV
 split
 ·cases e:regF p l r (cl0 i l.length) with
  |some x=>exact regF_bd h _ _ e
  |none=>exact reg_bd hs r
 ·exact ⟨by decide,by decide⟩
theorem valF_bd {p:Pg} {s:S8} {l:List En} (hs:okR s) (h: ∀ e∈l,0≤e.val∧e.val<65536) (i:Int) (v:Vl):0≤(valF p s l i v).1∧(valF p s l i v).1<65536:=by
 unfold valF
 split
 ·exact regV_bd hs h i _
 ·exact Wd.maskV_bd _ _
theorem sml_of {p:Pg} {c:Cf} (hs:okR c.s) (h: ∀ e∈c.b,0≤e.val∧e.val<65536):Sml p c:=fun i x=>by
 have h1:=valF_bd (p:=p) hs h i x.a
 have h2:=valF_bd (p:=p) hs h i x.b
 unfold tA tB
 omega
theorem Inv.val {p:Pg} {c:Cf} (h:Inv p c): ∀ e∈c.b,0≤e.val∧e.val<65536:=fun e he=>(h.be e he).val
theorem Inv.sml {p:Pg} {c:Cf} (h:Inv p c):Sml p c:=sml_of h.reg h.val
theorem Inv.done {p:Pg} {c:Cf} (h:Inv p c) (k:Nat): ∀ e∈(upE c k En.done).b,0≤e.val∧e.val<65536:=fun e he=>by
 rcases List.mem_or_eq_of_mem_set he with h1 |h1
 ·exact h.val e h1
 ·rw [h1];exact valE_bd h.val k
theorem Inv.smlD {p:Pg} {c:Cf} (h:Inv p c) (k:Nat):Sml p (upE c k En.done):=sml_of h.reg (h.done k)
theorem Inv.ok {p:Pg} {c:Cf} (hP:OkP p) (hw:p.win≤1000) (h:Inv p c):MOk p c:=by
 have hl:=hP.len
 have hb:=h.bl
 have hm:c.s.m.length≤16:=by rw [h.ml];exact hP.sum
 have h4:=h.st
 have h2:=h.rl
 refine ⟨hl,by omega,by omega,h.sml,h.smlD,by omega,fun e he=> ?_,fun e he=> ?_,by have:=h.pc;omega,by omega, ?_⟩
 ·have:=(h.be e he).pc;omega
 ·have:=(h.be e he).frm;omega
 ·have hx:=(atI_ok hP (c.b.getD 0 default).pc).1
  refine ⟨fun _=>hx.2.2.2.1,fun a b d=> ?_,fun a b d=> ?_,by omega,by omega,by omega, ?_⟩
  ·by_cases h0:0<c.b.length
   ·exact ⟨(h.be _ (gdE_mem h0)).adr.1,(h.et 0 h0).sto a d b⟩
   ·rw [gdE_out h0] at d;cases d
  ·by_cases h0:0<c.b.length
   ·obtain ⟨L,e,hL⟩:=(h.et 0 h0).ret a d b
    cases e;exact hL
   ·rw [gdE_out h0] at d;cases d
  ·by_cases h0:0<c.b.length
   ·have:=(h.be _ (gdE_mem h0)).pc;omega
   ·rw [gdE_out h0];exact ⟨by decide,by decide⟩
end
end Go.Proofs.Ytfjapapiappacaa.Px
namespace Go.Proofs.Ytfjapapiappacaa.Px
section
open Go.RowKit Go.Proofs.Ytfjapapiappacaa.Rx
theorem Inv.fin {p:Pg} {c:Cf} (h:Inv p c) {t e:Int} (ht: -1≤t∧t≤p.is.length):Inv p ⟨c.s.go t,[],[],e⟩:=
 ⟨h.reg,h.mem,h.ml,ht,h.st,h.stk,(by show ((0:Nat):Int)≤_;omega),(fun _ hx=>by cases hx),(by show 0≤2;omega),(fun _ hx=>by cases hx),fun k hk=>absurd hk (Nat.not_lt_zero k)⟩
end
end Go.Proofs.Ytfjapapiappacaa.Px
namespace Go.Proofs.Ytfjapapiappacaa.Px
section
open Go.RowKit Go.Proofs.Ytfjapapiappacaa.Rx
end
end Go.Proofs.Ytfjapapiappacaa.Px
namespace Go.Proofs.Ytfjapapiappacaa.Px
section
open Go.RowKit Go.Proofs.Ytfjapapiappacaa.Rx
def intsL (s:S8):List Int:=((([s.r0,s.r1,s.r2,s.r3,(s.m.length:Int)]++s.m)++[(s.st.length:Int)])++s.st)++[s.pc]
def enN (e:En):List Int:=[e.pc,e.val,e.adr,e.frm,e.nxt,Wd.tI e.dn,Wd.tI e.kn,Wd.tI e.ft]
def ciK (c:Cf):Nat→List Int
 |0=>intsL c.s++[(c.b.length:Int)]
 |k+1=>ciK c k++enN (c.b.getD k default)
def ciL (c:Cf):List Int:=((ciK c c.b.length++[(c.r.length:Int)])++c.r)++[c.e]
def ciS (c:Cf) (X:List Int) (k:Nat):Sm:=⟨[(1,cfP c),(3, .own 0 0 1 0 X.length),(4, .int .i64 k)],[(0,blkI X)],1⟩
theorem cat_if {A B:List Int} {n i:Nat} {x y:AV} (hn:n=A.length) (hx:i<n→x= .int .i64 (A.getD i 0)) (hy:n≤i→y= .int .i64 (B.getD (i-n) 0)):(bif Nat.blt i n then x else y)= .int .i64 ((A++B).getD i 0):=by
 subst hn
 by_cases h:i<A.length
 ·have:Nat.blt i A.length=true:=by rw [Nat.blt_eq];exact h
  rw [this,cond_true,hx h]
  simp [List.getD,List.getElem?_append_left h]
 ·have:Nat.blt i A.length=false:=by
   cases hb:Nat.blt i A.length with
   |false=>rfl
   |true=>rw [Nat.blt_eq] at hb;omega
  rw [this,cond_false,hy (by omega)]
  simp [List.getD,List.getElem?_append_right (Nat.le_of_not_lt h)]
theorem sing {x:Int} {q:Nat} (h:q=0):[AV.int .i64 x].getD ((q+0)*1+0) .junk= .int .i64 ([x].getD q 0):=by subst h;rfl
theorem five {a b c d e:Int} {i:Nat} (h:i<5):[AV.int .i64 a, .int .i64 b, .int .i64 c, .int .i64 d, .int .i64 e].getD ((i+0)*1+0) .junk= .int .i64 ([a,b,c,d,e].getD i 0):=
 match i,h with |0,_=>rfl |1,_=>rfl |2,_=>rfl |3,_=>rfl |4,_=>rfl
theorem intsL_len (s:S8):(intsL s).length=s.m.length+s.st.length+7:=by simp [intsL];omega
theorem in_o (s:S8) (L:List Int) (hL:L=intsL s) (hm:s.m.length<1000000) (hst:s.st.length<1000000):Vc (vcFn Try.prog false 26 [.agg (s8R s)] [.fv] [(0,0)] (.own 0 0 1 0 L.length) [blkI L]):=vc_by (cj (pv ((0:Nat)=0∧(5:Nat)=5∧((5:Nat)+s.m.length)*8≤140737488355328∧(5:Nat)+s.m.length≤140737488355328)) (cj (pv ((0:Nat)=0∧(5:Nat)+s.m.length=5+s.m.length∧((5:Nat)+s.m.length+1)*8≤140737488355328∧(5:Nat)+s.m.length+1≤140737488355328)) (cj (pv ((0:Nat)=0∧(5:Nat)+s.m.length+1=5+s.m.length+1∧((5:Nat)+s.m.length+1+s.st.length)*8≤140737488355328∧(5:Nat)+s.m.length+1+s.st.length≤140737488355328)) (cj (pv ((0:Nat)=0∧(5:Nat)+s.m.length+1+s.st.length=5+s.m.length+1+s.st.length∧((5:Nat)+s.m.length+1+s.st.length+1)*8≤140737488355328∧(5:Nat)+s.m.length+1+s.st.length+1≤140737488355328)) (cj (show (5:Nat)+s.m.length+1+s.st.length+1=L.length from by rw [hL,intsL_len];omega) (cj (show ∀ (i:Nat),i<5+s.m.length+1+s.st.length+1→ ∀ (j:Nat),j<1→(bif Nat.blt i ((5:Nat)+s.m.length+1+s.st.length) then bif Nat.blt i ((5:Nat)+s.m.length+1) then bif Nat.blt i ((5:Nat)+s.m.length) then bif Nat.blt i (5:Nat) then List.getD [aI s.r0,aI s.r1,aI s.r2,aI s.r3,aI (↑s.m.length:Int)] (i*1+j) AV.junk else aI (s.m.getD (i-5) (0:Int)) else List.getD [aI (↑s.st.length:Int)] ((i-((5:Nat)+s.m.length)+0)*1+j) AV.junk else aI (s.st.getD (i-((5:Nat)+s.m.length+1)) (0:Int)) else List.getD [aI s.pc] ((i-((5:Nat)+s.m.length+1+s.st.length)+0)*1+j) AV.junk)=aI (L.getD i 0) from (fun i hi j hj=>by
 subst hL
 obtain rfl:j=0:=by omega
 exact cat_if (A:=((([s.r0,s.r1,s.r2,s.r3,(s.m.length:Int)]++s.m)++[(s.st.length:Int)])++s.st)) (B:=[s.pc]) (by simp;omega) (fun _=>cat_if (A:=(([s.r0,s.r1,s.r2,s.r3,(s.m.length:Int)]++s.m)++[(s.st.length:Int)])) (B:=s.st) (by simp;omega) (fun _=>cat_if (A:=([s.r0,s.r1,s.r2,s.r3,(s.m.length:Int)]++s.m)) (B:=[(s.st.length:Int)]) (by simp;omega) (fun _=>cat_if (A:=[s.r0,s.r1,s.r2,s.r3,(s.m.length:Int)]) (B:=s.m) rfl (fun h=>five h) (fun _=>rfl)) (fun _=>sing (by omega))) (fun _=>rfl)) (fun _=>sing (by omega)))) (cj (rf (0:Nat)) (cj (show (5:Nat)+s.m.length+1+s.st.length+1=L.length from by rw [hL,intsL_len];omega) trivial)))))))) (by kernel_rfl)
theorem intsO (s:S8) (hm:s.m.length<1000000) (hst:s.st.length<1000000):PureC Try.prog 26 [.agg (s8R s)] (.own 0 0 1 0 (intsL s).length) [blkI (intsL s)]:=PureC.vc (in_o s _ rfl hm hst)
theorem tr9_true (b:Bool) (h:b=true):Vc (vcFn Try.prog false 27 [.bool b] [.b true] [] (.int .i64 (Wd.tI b)) []):=vc_by (cj h (cj (show (1:Int)=Wd.tI b from by rw [h];rfl) trivial)) (by kernel_rfl)
theorem tr9_false (b:Bool) (h:b=false):Vc (vcFn Try.prog false 27 [.bool b] [.b false] [] (.int .i64 (Wd.tI b)) []):=vc_by (cj h (cj (show (0:Int)=Wd.tI b from by rw [h];rfl) trivial)) (by kernel_rfl)
theorem tr9C (b:Bool):PureC Try.prog 27 [.bool b] (.int .i64 (Wd.tI b)) []:=by
 cases h:b with
 |true=>exact PureC.vc (tr9_true true rfl)
 |false=>exact PureC.vc (tr9_false false rfl)
theorem sN20 (c:Cf) (X:List Int) (k:Nat):X.length+8=(X++[(c.b.getD k default).pc,(c.b.getD k default).val,(c.b.getD k default).adr,(c.b.getD k default).frm,(c.b.getD k default).nxt,Wd.tI (c.b.getD k default).dn,Wd.tI (c.b.getD k default).kn,Wd.tI (c.b.getD k default).ft]).length:=by rw [List.length_append];rfl
theorem zN20 (c:Cf) {Z:Prop} (z:Z):(RF c.b.length (RR c.b.length 8 (fun i j=>rowL enC c.b i j) (RF c.r.length (RR c.r.length 1 (fun i j=>aI (c.r.getD i 0)) (RF c.e (RF (0:Nat) Z)))))):=⟨rfl,fun _ _ _ _=>rfl,rfl,fun _ _ _ _=>rfl,rfl,rfl,z⟩
theorem zN21 (c:Cf) {Z:Prop} (z:Z):(RF c.s.r0 (RF c.s.r1 (RF c.s.r2 (RF c.s.r3 (RF c.s.m.length (RR c.s.m.length 1 (fun i j=>aI (List.getD c.s.m i (0:Int))) (RF c.s.st.length (RR c.s.st.length 1 (fun i j=>aI (List.getD c.s.st i (0:Int))) (RF c.s.pc Z))))))))):=⟨rfl,rfl,rfl,rfl,rfl,fun _ _ _ _=>rfl,rfl,fun _ _ _ _=>rfl,rfl,z⟩
theorem ci_y (c:Cf) (X:List Int) (k:Nat) (hk:k<c.b.length) (hb:c.b.length<1000000) (hX:X.length<100000000):Vc (vcC Try.prog false (ntOf Try.prog 12) (lpC Try.prog 12 0) (ciS c X k) [.bd true, .cl [.bool (c.b.getD k default).dn] (.int .i64 (Wd.tI (c.b.getD k default).dn)) [], .cl [.bool (c.b.getD k default).kn] (.int .i64 (Wd.tI (c.b.getD k default).kn)) [], .cl [.bool (c.b.getD k default).ft] (.int .i64 (Wd.tI (c.b.getD k default).ft)) []] .nrm [(0,0)] (ciS c (X++enN (c.b.getD k default)) (k+1))):=vc_by (cj (dt ((k:Int)<(↑c.b.length:Int))) (cj (bi (k:Int) (↑c.b.length:Int)) (cj (rf ((c.b.getD k default).dn)) (cj (tr9C (c.b.getD k default).dn) (cj (rf ((c.b.getD k default).kn)) (cj (tr9C (c.b.getD k default).kn) (cj (rf ((c.b.getD k default).ft)) (cj (tr9C (c.b.getD k default).ft) (cj (ap X.length 8 8) (cj (i6 ((k:Int)+1)) (cj (sN20 c X k) (cj (show ∀ (i:Nat),i<X.length+8→ ∀ (j:Nat),j<1→(bif Nat.blt i X.length then aI (X.getD i 0) else List.getD [aI (c.b.getD k default).pc,aI (c.b.getD k default).val,aI (c.b.getD k default).adr,aI (c.b.getD k default).frm,aI (c.b.getD k default).nxt,aI (Wd.tI (c.b.getD k default).dn),aI (Wd.tI (c.b.getD k default).kn),aI (Wd.tI (c.b.getD k default).ft)] ((i-X.length+0)*1+j) AV.junk)=aI (List.getD (X++[(c.b.getD k default).pc,(c.b.getD k default).val,(c.b.getD k default).adr,(c.b.getD k default).frm,(c.b.getD k default).nxt,Wd.tI (c.b.getD k default).dn,Wd.tI (c.b.getD k default).kn,Wd.tI (c.b.getD k default).ft]) i (0:Int)) from (fun i hi j hj=>by obtain rfl:j=0:=(by omega);exact cat_if (A:=X) (B:=enN (c.b.getD k default)) rfl (fun _=>rfl) (fun h=>by obtain ⟨q,rfl⟩: ∃ q,i=X.length+q:=⟨i-X.length,by omega⟩;rw [Nat.add_sub_cancel_left];exact (match q,(show q<8 by omega) with |0,_=>rfl |1,_=>rfl |2,_=>rfl |3,_=>rfl |4,_=>rfl |5,_=>rfl |6,_=>rfl |7,_=>rfl)))) (zN21 c (zN20 c (cj (sN20 c X k) (cj (rf ((k:Int)+1)) trivial)))))))))))))))) (by kernel_rfl)
theorem ci_e (c:Cf) (X:List Int) (k:Nat) (hk: ¬k<c.b.length):Vc (vcC Try.prog false (ntOf Try.prog 12) (lpC Try.prog 12 0) (ciS c X k) [.bd false] (.ext 0) [(0,0)] (ciS c X k)):=vc_by (cj (df ((k:Int)<(↑c.b.length:Int))) (cj (rf X.length) (cj (rr X.length 1 fun i j=>aI (X.getD i 0)) (zN21 c (cj (rf c.b.length) (cj (rr c.b.length 8 fun i j=>rowL enC c.b i j) (cj (rf c.r.length) (cj (rr c.r.length 1 fun i j=>aI (c.r.getD i 0)) (cj (rf c.e) (cj (rf (0:Nat)) (cj (rf X.length) (cj (rf (k:Int)) trivial)))))))))))) (by kernel_rfl)
theorem ciK_len (c:Cf): ∀ k,(ciK c k).length=(intsL c.s).length+1+8*k
 |0=>by rw [ciK,List.length_append];rfl
 |k+1=>by rw [ciK,List.length_append,ciK_len c k];show _+8=_;omega
theorem ci_loop (c:Cf) (hb:c.b.length<1000000) (hm:c.s.m.length<1000000) (hst:c.s.st.length<1000000):Ok Try.prog (ntOf Try.prog 12) (.loop (lpC Try.prog 12 0)) (ciS c (ciK c 0) 0).st (.ext 0) (ciS c (ciK c c.b.length) c.b.length).st:=
 Ok.loop (P:=Try.prog) (nt:=ntOf Try.prog 12) (c:=lpC Try.prog 12 0) (F:=fun k=>ciS c (ciK c k) k) (m:=c.b.length) (x:= .ext 0) (J:=ciS c (ciK c c.b.length) c.b.length) (fun k hk=>Ok.vc (ci_y c (ciK c k) k hk hb (by rw [ciK_len,intsL_len];omega))) (Ok.vc (ci_e c _ _ (Nat.lt_irrefl _))) (by simp)
theorem cif (c:Cf) (L0 X L:List Int) (n:Nat) (hL:L=((X++[(c.r.length:Int)])++c.r)++[c.e]) (h7:PureC Try.prog 26 [.agg (s8R c.s)] (.own 0 0 1 0 L0.length) [blkI L0]) (h:Ok Try.prog (ntOf Try.prog 12) (.loop (lpC Try.prog 12 0)) (ciS c (L0++[(c.b.length:Int)]) 0).st (.ext 0) (ciS c X n).st) (hl0:L0.length<100000000) (hX:X.length<100000000) (hr:c.r.length<1000000):Vc (vcFn Try.prog false 12 [.agg (cfA c)] [.fv, .cl [.agg (s8R c.s)] (.own 0 0 1 0 L0.length) [blkI L0], .lp [(0,0)] (ciS c (L0++[(c.b.length:Int)]) 0) (.ext 0) (ciS c X n)] [] (lR L) []):=vc_by (zN21 c (cj h7 (cj (ap L0.length 1 8) (cj (pv (L0.length+1=(L0++[(↑c.b.length:Int)]).length)) (cj (show ∀ (i:Nat),i<L0.length+1→ ∀ (j:Nat),j<1→(bif Nat.blt i L0.length then aI (L0.getD i 0) else List.getD [aI (↑c.b.length:Int)] ((i-L0.length+0)*1+j) AV.junk)=aI (List.getD (L0++[(↑c.b.length:Int)]) i (0:Int)) from (fun i hi j hj=>by obtain rfl:j=0:=(by omega);exact cat_if (A:=L0) (B:=[(c.b.length:Int)]) (by simp) (fun _=>rfl) (fun h=>sing (by omega)))) (zN21 c (zN20 c (cj (pv (L0.length+1=(L0++[(↑c.b.length:Int)]).length)) (cj (rf (0:Int)) (cj h (cj (ap X.length 1 8) (cj (ap (X.length+1) c.r.length 8) (cj (ap (X.length+1+c.r.length) 1 8) (cj (show X.length+1+c.r.length+1=L.length from by rw [hL];simp;omega) (cj (show ∀ (i:Nat),i<X.length+1+c.r.length+1→ ∀ (j:Nat),j<1→(bif Nat.blt (i+0) (X.length+1+c.r.length) then bif Nat.blt (i+0) (X.length+1) then bif Nat.blt (i+0) X.length then aI (X.getD (i+0) (0:Int)) else List.getD [aI (↑c.r.length:Int)] ((i+0-X.length+0)*1+j) AV.junk else aI (c.r.getD (i+0-(X.length+1)) (0:Int)) else List.getD [aI c.e] ((i+0-(X.length+1+c.r.length)+0)*1+j) AV.junk)=aI (L.getD i 0) from (fun i hi j hj=>by
 subst hL
 obtain rfl:j=0:=by omega
 exact cat_if (A:=((X++[(c.r.length:Int)])++c.r)) (B:=[c.e]) (by simp only [List.length_append,List.length_singleton]) (fun _=>cat_if (A:=(X++[(c.r.length:Int)])) (B:=c.r) (by simp only [List.length_append,List.length_singleton]) (fun _=>cat_if (A:=X) (B:=[(c.r.length:Int)]) (by simp) (fun _=>rfl) (fun h=>sing (by omega))) (fun _=>rfl)) (fun h=>sing (by omega)))) trivial))))))))))))))) (by kernel_rfl)
theorem ciL_len (c:Cf):(ciL c).length=c.s.m.length+c.s.st.length+10+8*c.b.length+c.r.length:=by
 unfold ciL;rw [List.length_append,List.length_append,List.length_append,ciK_len,intsL_len];simp;omega
theorem ciC (c:Cf) (hb:c.b.length<1000000) (hm:c.s.m.length<1000000) (hst:c.s.st.length<1000000) (hr:c.r.length<1000000):PureC Try.prog 12 [.agg (cfA c)] (lR (ciL c)) []:=
 PureC.vc (cif c (intsL c.s) (ciK c c.b.length) (ciL c) _ rfl (intsO c.s hm hst) (ci_loop c hb hm hst) (by rw [intsL_len];omega) (by rw [ciK_len,intsL_len];omega) hr)
theorem same9 (a b:Cf) (A B:List Int) (x:Bool) (ha:PureC Try.prog 12 [.agg (cfA a)] (lR A) []) (hb:PureC Try.prog 12 [.agg (cfA b)] (lR B) []) (hs:PureC Try.prog 11 [lR A,lR B] (.bool x) []):Vc (vcFn Try.prog false 10 [.agg (cfA a), .agg (cfA b)] [.fv, .fv, .cl [.agg (cfA a)] (lR A) [], .cl [.agg (cfA b)] (lR B) [], .cl [lR A,lR B] (.bool x) []] [] (.bool x) []):=vc_by (cj (rf a.s.r0) (cj (rf a.s.r1) (cj (rf a.s.r2) (cj (rf a.s.r3) (cj (rf a.s.m.length) (cj (rr a.s.m.length 1 fun i j=>aI (List.getD a.s.m i (0:Int))) (cj (rf a.s.st.length) (cj (rr a.s.st.length 1 fun i j=>aI (List.getD a.s.st i (0:Int))) (cj (rf a.s.pc) (cj (rf a.b.length) (cj (rr a.b.length 8 fun i j=>rowL enC a.b i j) (cj (rf a.r.length) (cj (rr a.r.length 1 fun i j=>aI (a.r.getD i 0)) (cj (rf a.e) (cj ha (cj (rf b.s.r0) (cj (rf b.s.r1) (cj (rf b.s.r2) (cj (rf b.s.r3) (cj (rf b.s.m.length) (cj (rr b.s.m.length 1 fun i j=>aI (List.getD b.s.m i (0:Int))) (cj (rf b.s.st.length) (cj (rr b.s.st.length 1 fun i j=>aI (List.getD b.s.st i (0:Int))) (cj (rf b.s.pc) (cj (rf b.b.length) (cj (rr b.b.length 8 fun i j=>rowL enC b.b i j) (cj (rf b.r.length) (cj (rr b.r.length 1 fun i j=>aI (b.r.getD i 0)) (cj (rf b.e) (cj hb (cj (rf A.length) (cj (rr A.length 1 fun i j=>aI (A.getD i 0)) (cj (rf B.length) (cj (rr B.length 1 fun i j=>aI (B.getD i 0)) (cj hs (cj (rf x) trivial)))))))))))))))))))))))))))))))))))) (by kernel_rfl)
theorem rsameC (a b:Cf) (hb:a.b.length<1000000) (hm:a.s.m.length<1000000) (hst:a.s.st.length<1000000) (hr:a.r.length<1000000) (hb':b.b.length<1000000) (hm':b.s.m.length<1000000) (hst':b.s.st.length<1000000) (hr':b.r.length<1000000):PureC Try.prog 10 [.agg (cfA a), .agg (cfA b)] (.bool (decide (ciL a=ciL b))) []:=
 PureC.vc (same9 a b _ _ _ (ciC a hb hm hst hr) (ciC b hb' hm' hst' hr') (nsiC _ _ (by rw [ciL_len];omega)))
end
end Go.Proofs.Ytfjapapiappacaa.Px
namespace Go.Proofs.Ytfjapapiappacaa.Px
section
open Go.RowKit Go.Proofs.Ytfjapapiappacaa.Rx
def two2 (a b:AV) (i _:Nat):AV:=[a,b].getD i .junk
theorem catb {a b:List Int} (i:Nat):(bif Nat.blt i (0+a.length) then AV.int .u8 (a.getD (i-0) 0) else AV.int .u8 (b.getD (i-(0+a.length)) 0))= .int .u8 ((a++b).getD i 0):=by
 rw [Nat.zero_add]
 by_cases h:i<a.length
 ·have:Nat.blt i a.length=true:=by rw [Nat.blt_eq];exact h
  rw [this,cond_true]
  simp [List.getD,List.getElem?_append_left h]
 ·have:Nat.blt i a.length=false:=by
   cases hb:Nat.blt i a.length with
   |false=>rfl
   |true=>rw [Nat.blt_eq] at hb;omega
  rw [this,cond_false]
  simp [List.getD,List.getElem?_append_right (Nat.le_of_not_lt h)]
theorem catB (a b:List Int) (h0:0<a.length+b.length) (ha:a.length<100000000) (hb:b.length<100000000):Vc (vcFn Try.prog false 40 [.row 1 2 (two2 (bR a) (bR b))] [.it 3, .bd true, .bd false, .bd true, .bd false, .bd false, .bd false, .bd true, .it 3, .bd true, .sh, .bd true, .bd false] [(0,0)] (.own 0 0 1 0 (a++b).length) [blkB (a++b)]):=vc_by (cj (dt ((0:Int)<((2:Nat):Int))) (cj (pv ((0:Int)≤0∧(0:Int)<((2:Nat):Int))) (cj (i6 ((0:Int)+(a.length:Int))) (cj (df ((0:Int)+(a.length:Int)<0)) (cj (i6 ((0:Int)+1)) (cj (dt ((0:Int)+1<((2:Nat):Int))) (cj (pv ((0:Int)≤0+1∧(0:Int)+1<((2:Nat):Int))) (cj (i6 ((0:Int)+(a.length:Int)+(b.length:Int))) (cj (df ((0:Int)+(a.length:Int)+(b.length:Int)<0)) (cj (i6 ((0:Int)+1+1)) (cj (df ((0:Int)+1+1<((2:Nat):Int))) (cj (df ((0:Int)+(a.length:Int)+(b.length:Int)<0)) (cj (i6 ((0:Int)-0)) (cj (i6 ((0:Int)+(a.length:Int)+(b.length:Int)-((0:Int)-0))) (cj (dt ((0:Int)+(a.length:Int)+(b.length:Int)-((0:Int)-0)>0)) (cj (pv ((0:Int)=0∧(0:Int)=0)) (cj (pv ((0:Int)<0+(a.length:Int)+(b.length:Int)-((0:Int)-0)∧((0:Int)+(a.length:Int)+(b.length:Int)-((0:Int)-0))*((1:Nat):Int)≤140737488355328∧(0:Int)+(a.length:Int)+(b.length:Int)-((0:Int)-0)≤140737488355328)) (cj (pv ((0:Int)≤0∧(0:Int)≤(↑(nat_lit 0+a.length+b.length+nat_lit 0):Int))) (cj (dt ((0:Int)<((2:Nat):Int))) (cj (pv ((0:Int)≤0∧(0:Int)<((2:Nat):Int))) (cj (ap 0 a.length 1) (cj (i6 ((0:Int)+1)) (cj (dt ((0:Int)+1<((2:Nat):Int))) (cj (pv ((0:Int)≤0+1∧(0:Int)+1<((2:Nat):Int))) (cj (ap (0+a.length) b.length 1) (cj (i6 ((0:Int)+1+1)) (cj (df ((0:Int)+1+1<((2:Nat):Int))) (cj (pv ((0:Nat)+a.length+b.length=(a++b).length)) (cj (show ∀ (i:Nat),i<0+a.length+b.length→ ∀ (j:Nat),j<1→(bif Nat.blt i ((0:Nat)+a.length) then AV.int IntKind.u8 (a.getD (i-0) (0:Int)) else AV.int IntKind.u8 (b.getD (i-((0:Nat)+a.length)) (0:Int)))=AV.int IntKind.u8 (List.getD (a++b) i (0:Int)) from (fun i hi j hj=>catb i)) (cj (rf (0:Nat)) (cj (pv ((0:Nat)+a.length+b.length=(a++b).length)) trivial))))))))))))))))))))))))))))))) (by kernel_rfl)
theorem fin_vc (c:Cf) (b:Bool) (h:(c.e !=0)=b):Vc (vcFn Try.prog false 17 [.agg (cfA c)] [.fv, .bd b] [] (.bool b) []):=vc_by (cj h (cj (rf b) trivial)) (by kernel_rfl)
theorem finC (c:Cf):PureC Try.prog 17 [.agg (cfA c)] (.bool (c.e !=0)) []:=PureC.vc (fin_vc c _ rfl)
theorem beg0_vc (s:S8) (h1:PureC Try.prog 33 [lR s.m] (.own 0 0 1 0 s.m.length) [blkI s.m]) (h2:PureC Try.prog 33 [lR s.st] (.own 0 0 1 0 s.st.length) [blkI s.st]):Vc (vcFn Try.prog false 16 [.agg (s8R s)] [.cl [lR s.m] (.own 0 0 1 0 s.m.length) [blkI s.m], .cl [lR s.st] (.own 0 0 1 0 s.st.length) [blkI s.st]] [(0,2),(1,3)] (.agg (s8A s (.own 0 0 1 0 s.m.length) (.own 1 0 1 0 s.st.length)++[.nils, .nils, .int .i64 0])) [blkI s.m,blkI s.st]):=vc_by (cj (rf s.m.length) (cj (rr s.m.length 1 fun i j=>aI (s.m.getD i 0)) (cj h1 (cj (rf s.st.length) (cj (rr s.st.length 1 fun i j=>aI (s.st.getD i 0)) (cj h2 (cj (rf s.m.length) (cj (rr s.m.length 1 fun i j=>aI (s.m.getD i 0)) (cj (rf s.st.length) (cj (rr s.st.length 1 fun i j=>aI (s.st.getD i 0)) (cj (rf s.r0) (cj (rf s.r1) (cj (rf s.r2) (cj (rf s.r3) (cj (rf (0:Nat)) (cj (rf s.m.length) (cj (rf (0:Nat)) (cj (rf s.st.length) (cj (rf s.pc) (cj (rf (0:Int)) trivial)))))))))))))))))))) (by kernel_rfl)
def coS (c:Cf) (X:List Int) (k:Nat):Sm:=⟨[(1,cfP c),(3, .own 0 0 1 0 X.length),(25,enR c.b),(26, .int .i64 c.b.length),(27, .int .i64 k)],[(0,blkI X)],1⟩
theorem nbc_true (b:Bool) (h:b=true):Vc (vcFn Try.prog false 39 [.bool b] [.b true] [] (.int .i64 (Wd.tI b)) []):=vc_by (cj h (cj (show (1:Int)=Wd.tI b from by rw [h];rfl) trivial)) (by kernel_rfl)
theorem nbc_false (b:Bool) (h:b=false):Vc (vcFn Try.prog false 39 [.bool b] [.b false] [] (.int .i64 (Wd.tI b)) []):=vc_by (cj h (cj (show (0:Int)=Wd.tI b from by rw [h];rfl) trivial)) (by kernel_rfl)
theorem nbC (b:Bool):PureC Try.prog 39 [.bool b] (.int .i64 (Wd.tI b)) []:=by
 cases h:b with
 |true=>exact PureC.vc (nbc_true true rfl)
 |false=>exact PureC.vc (nbc_false false rfl)
theorem sC50 (c:Cf) (X:List Int) (k:Nat):X.length+8=(X++[(c.b.getD k default).pc,(c.b.getD k default).val,(c.b.getD k default).adr,(c.b.getD k default).frm,(c.b.getD k default).nxt,Wd.tI (c.b.getD k default).dn,Wd.tI (c.b.getD k default).kn,Wd.tI (c.b.getD k default).ft]).length:=by rw [List.length_append];rfl
theorem zC50 (c:Cf) {Z:Prop} (z:Z):(RF c.s.r0 (RF c.s.r1 (RF c.s.r2 (RF c.s.r3 (RF c.s.m.length (RR c.s.m.length 1 (fun i j=>aI (List.getD c.s.m i (0:Int))) (RF c.s.st.length (RR c.s.st.length 1 (fun i j=>aI (List.getD c.s.st i (0:Int))) (RF c.s.pc Z))))))))):=⟨rfl,rfl,rfl,rfl,rfl,fun _ _ _ _=>rfl,rfl,fun _ _ _ _=>rfl,rfl,z⟩
theorem co_y (c:Cf) (X:List Int) (k:Nat) (hk:k<c.b.length) (hb:c.b.length<1000000) (hX:X.length<100000000):Vc (vcC Try.prog false (ntOf Try.prog 22) (lpC Try.prog 22 0) (coS c X k) [.bd true, .cl [.bool (c.b.getD k default).dn] (.int .i64 (Wd.tI (c.b.getD k default).dn)) [], .cl [.bool (c.b.getD k default).kn] (.int .i64 (Wd.tI (c.b.getD k default).kn)) [], .cl [.bool (c.b.getD k default).ft] (.int .i64 (Wd.tI (c.b.getD k default).ft)) []] .nrm [(0,0)] (coS c (X++enN (c.b.getD k default)) (k+1))):=vc_by (cj (dt ((k:Int)<(↑c.b.length:Int))) (cj (bi (k:Int) (↑c.b.length:Int)) (cj (rf ((c.b.getD k default).dn)) (cj (nbC (c.b.getD k default).dn) (cj (rf ((c.b.getD k default).kn)) (cj (nbC (c.b.getD k default).kn) (cj (rf ((c.b.getD k default).ft)) (cj (nbC (c.b.getD k default).ft) (cj (ap X.length 8 8) (cj (i6 ((k:Int)+1)) (cj (sC50 c X k) (cj (show ∀ (i:Nat),i<X.length+8→ ∀ (j:Nat),j<1→(bif Nat.blt i X.length then aI (X.getD i 0) else List.getD [aI (c.b.getD k default).pc,aI (c.b.getD k default).val,aI (c.b.getD k default).adr,aI (c.b.getD k default).frm,aI (c.b.getD k default).nxt,aI (Wd.tI (c.b.getD k default).dn),aI (Wd.tI (c.b.getD k default).kn),aI (Wd.tI (c.b.getD k default).ft)] ((i-X.length+0)*1+j) AV.junk)=aI (List.getD (X++[(c.b.getD k default).pc,(c.b.getD k default).val,(c.b.getD k default).adr,(c.b.getD k default).frm,(c.b.getD k default).nxt,Wd.tI (c.b.getD k default).dn,Wd.tI (c.b.getD k default).kn,Wd.tI (c.b.getD k default).ft]) i (0:Int)) from (fun i hi j hj=>by obtain rfl:j=0:=(by omega);exact cat_if (A:=X) (B:=enN (c.b.getD k default)) rfl (fun _=>rfl) (fun h=>by obtain ⟨q,rfl⟩: ∃ q,i=X.length+q:=⟨i-X.length,by omega⟩;rw [Nat.add_sub_cancel_left];exact (match q,(show q<8 by omega) with |0,_=>rfl |1,_=>rfl |2,_=>rfl |3,_=>rfl |4,_=>rfl |5,_=>rfl |6,_=>rfl |7,_=>rfl)))) (zC50 c (cj (rf c.b.length) (cj (rr c.b.length 8 fun i j=>rowL enC c.b i j) (cj (rf c.r.length) (cj (rr c.r.length 1 fun i j=>aI (c.r.getD i 0)) (cj (rf c.e) (cj (rf (0:Nat)) (cj (sC50 c X k) (cj (rf c.b.length) (cj (rr c.b.length 8 fun i j=>rowL enC c.b i j) (cj (rf (↑c.b.length:Int)) (cj (rf ((k:Int)+1)) trivial)))))))))))))))))))))))) (by kernel_rfl)
theorem co_e (c:Cf) (X:List Int) (k:Nat) (hk: ¬k<c.b.length):Vc (vcC Try.prog false (ntOf Try.prog 22) (lpC Try.prog 22 0) (coS c X k) [.bd false] (.ext 0) [(0,0)] (coS c X k)):=vc_by (cj (df ((k:Int)<(↑c.b.length:Int))) (cj (rf X.length) (cj (rr X.length 1 fun i j=>aI (X.getD i 0)) (zC50 c (cj (rf c.b.length) (cj (rr c.b.length 8 fun i j=>rowL enC c.b i j) (cj (rf c.r.length) (cj (rr c.r.length 1 fun i j=>aI (c.r.getD i 0)) (cj (rf c.e) (cj (rf (0:Nat)) (cj (rf X.length) (cj (rf c.b.length) (cj (rr c.b.length 8 fun i j=>rowL enC c.b i j) (cj (rf (↑c.b.length:Int)) (cj (rf (k:Int)) trivial))))))))))))))) (by kernel_rfl)
def coK (c:Cf):Nat→List Int
 |0=>[(c.b.length:Int)]
 |k+1=>coK c k++enN (c.b.getD k default)
def coL (c:Cf):List Int:=((coK c c.b.length++[(c.r.length:Int)])++c.r)++[c.e]
theorem coK_len (c:Cf): ∀ k,(coK c k).length=1+8*k
 |0=>rfl
 |k+1=>by rw [coK,List.length_append,coK_len c k];show _+8=_;omega
theorem coL_len (c:Cf):(coL c).length=3+8*c.b.length+c.r.length:=by
 unfold coL;rw [List.length_append,List.length_append,List.length_append,coK_len];simp;omega
theorem ciK_co (c:Cf): ∀ k,ciK c k=intsL c.s++coK c k
 |0=>rfl
 |k+1=>by rw [ciK,coK,ciK_co c k,List.append_assoc]
theorem ciL_co (c:Cf):ciL c=intsL c.s++coL c:=by
 unfold ciL coL;rw [ciK_co];simp only [List.append_assoc]
theorem co_loop (c:Cf) (hb:c.b.length<1000000):Ok Try.prog (ntOf Try.prog 22) (.loop (lpC Try.prog 22 0)) (coS c (coK c 0) 0).st (.ext 0) (coS c (coK c c.b.length) c.b.length).st:=
 Ok.loop (P:=Try.prog) (nt:=ntOf Try.prog 22) (c:=lpC Try.prog 22 0) (F:=fun k=>coS c (coK c k) k) (m:=c.b.length) (x:= .ext 0) (J:=coS c (coK c c.b.length) c.b.length) (fun k hk=>Ok.vc (co_y c (coK c k) k hk hb (by rw [coK_len];omega))) (Ok.vc (co_e c _ _ (Nat.lt_irrefl _))) (by simp)
theorem code_vc (c:Cf) (X L A B:List Int) (n:Nat) (hL:L=((X++[(c.r.length:Int)])++c.r)++[c.e]) (h:Ok Try.prog (ntOf Try.prog 22) (.loop (lpC Try.prog 22 0)) (coS c [(c.b.length:Int)] 0).st (.ext 0) (coS c X n).st) (hA:PureC Try.prog 41 [.agg (s8R c.s)] (bR A) []) (hP:PureC Try.prog 42 [lR L] (bR B) []) (hC:PureC Try.prog 40 [.row 1 2 (two2 (bR A) (bR B))] (.own 0 0 1 0 (A++B).length) [blkB (A++B)]) (hb:c.b.length<1000000) (hX:X.length<100000000) (hr:c.r.length<1000000):Vc (vcFn Try.prog false 22 [.agg (cfA c)] [.fv, .lp [(0,0)] (coS c [(c.b.length:Int)] 0) (.ext 0) (coS c X n), .cl [.agg (s8R c.s)] (bR A) [], .cl [lR L] (bR B) [], .fz, .cl [.row 1 2 (two2 (bR A) (bR B))] (.own 0 0 1 0 (A++B).length) [blkB (A++B)]] [(0,4)] (.own 0 0 1 0 (A++B).length) [blkB (A++B)]):=vc_by (cj (i6 ((8:Int)*(↑c.b.length:Int))) (cj (i6 ((1:Int)+8*(↑c.b.length:Int))) (cj (i6 ((1:Int)+8*(↑c.b.length:Int)+1)) (cj (i6 ((1:Int)+8*(↑c.b.length:Int)+1+(↑c.r.length:Int))) (cj (i6 ((1:Int)+8*(↑c.b.length:Int)+1+(↑c.r.length:Int)+1)) (cj (pv ((0:Int)≤0∧(0:Int)≤1+8*(↑c.b.length:Int)+1+(↑c.r.length:Int)+1∧((1:Int)+8*(↑c.b.length:Int)+1+(↑c.r.length:Int)+1)*((8:Nat):Int)≤140737488355328∧(1:Int)+8*(↑c.b.length:Int)+1+(↑c.r.length:Int)+1≤140737488355328)) (cj (pv ((0:Nat)=0∧(0:Nat)=0∧(8:Nat)≤140737488355328∧(1:Nat)≤140737488355328)) (cj (rf (1:Nat)) (cj (show ∀ (i:Nat),i<1→ ∀ (j:Nat),j<1→(bif Nat.blt i (0:Nat) then List.getD [aI (0:Int)] j AV.junk else List.getD [aI (↑c.b.length:Int)] ((i-0+0)*1+j) AV.junk)=aI (List.getD [(↑c.b.length:Int)] i (0:Int)) from (fun i hi j hj=>match i,hi,j,hj with |0,_,0,_=>rfl)) (zC50 c (cj (rf c.b.length) (cj (rr c.b.length 8 fun i j=>rowL enC c.b i j) (cj (rf c.r.length) (cj (rr c.r.length 1 fun i j=>aI (c.r.getD i 0)) (cj (rf c.e) (cj (rf (0:Nat)) (cj (rf (1:Nat)) (cj (rf c.b.length) (cj (rr c.b.length 8 fun i j=>rowL enC c.b i j) (cj (rf (↑c.b.length:Int)) (cj (rf (0:Int)) (cj h (cj (ap X.length 1 8) (cj (ap (X.length+1) c.r.length 8) (cj (ap (X.length+1+c.r.length) 1 8) (zC50 c (cj hA (cj (show X.length+1+c.r.length+1=L.length from by rw [hL];simp;omega) (cj (show ∀ (i:Nat),i<X.length+1+c.r.length+1→ ∀ (j:Nat),j<1→(bif Nat.blt (i+0) (X.length+1+c.r.length) then bif Nat.blt (i+0) (X.length+1) then bif Nat.blt (i+0) X.length then aI (X.getD (i+0) (0:Int)) else List.getD [aI (↑c.r.length:Int)] ((i+0-X.length+0)*1+j) AV.junk else aI (c.r.getD (i+0-(X.length+1)) (0:Int)) else List.getD [aI c.e] ((i+0-(X.length+1+c.r.length)+0)*1+j) AV.junk)=aI (L.getD i 0) from (fun i hi j hj=>by
 subst hL
 obtain rfl:j=0:=by omega
 exact cat_if (A:=((X++[(c.r.length:Int)])++c.r)) (B:=[c.e]) (by simp only [List.length_append,List.length_singleton]) (fun _=>cat_if (A:=(X++[(c.r.length:Int)])) (B:=c.r) (by simp only [List.length_append,List.length_singleton]) (fun _=>cat_if (A:=X) (B:=[(c.r.length:Int)]) (by simp) (fun _=>rfl) (fun h=>sing (by omega))) (fun _=>rfl)) (fun h=>sing (by omega)))) (cj hP (cj (rf (2:Nat)) (cj (show ∀ (i:Nat),i<2→ ∀ (j:Nat),j<1→List.getD [AV.row (nat_lit 1) A.length fun (a a_1:Nat)=>AV.int IntKind.u8 (A.getD a 0),AV.row (nat_lit 1) B.length fun (a a_1:Nat)=>AV.int IntKind.u8 (B.getD a 0)] (i*1+j) AV.junk=two2 (AV.row (nat_lit 1) A.length fun (a a_1:Nat)=>AV.int IntKind.u8 (A.getD a 0)) (AV.row (nat_lit 1) B.length fun (a a_1:Nat)=>AV.int IntKind.u8 (B.getD a 0)) i j from (fun i hi j hj=>match i,hi,j,hj with |0,_,0,_=>rfl |1,_,0,_=>rfl)) (cj hC (cj (rf ((A++B).length)) (cj (rr ((A++B).length) 1 fun i j=>AV.int IntKind.u8 (List.getD (A++B) i (0:Int))) (cj (rf (0:Nat)) (cj (rf ((A++B).length)) trivial))))))))))))))))))))))))))))))))))))) (by kernel_rfl)
theorem codeO (c:Cf) (hA:PureC Try.prog 41 [.agg (s8R c.s)] (bR (Cd.putL (intsL c.s))) []) (hb:c.b.length<100000) (hr:c.r.length<100000) (hI:(Cd.putL (intsL c.s)).length<100000000) (hL:Cd.isI (coL c)):PureC Try.prog 22 [.agg (cfA c)] (.own 0 0 1 0 (Cd.putL (ciL c)).length) [blkB (Cd.putL (ciL c))]:=by
 have hP:=(putC (.row (coL c)) (by rw [coL_len];omega) hL).frozen
 have h2:=Cd.putL_len_le (coL c)
 rw [coL_len] at h2
 have hpos:0<(Cd.putL (intsL c.s)).length:=by
  have h:=Cd.putN_len c.s.r0
  have e:(Cd.putL (intsL c.s)).length=(Cd.putN c.s.r0).length+(Cd.putL (intsL c.s).tail).length:=by rw [←List.length_append];rfl
  split at h<;>omega
 have hC:=PureC.vc (catB (Cd.putL (intsL c.s)) (Cd.putL (coL c)) (by omega) hI (by omega))
 rw [ciL_co,Cd.putL_append]
 exact PureC.vc (code_vc c _ (coL c) _ _ c.b.length rfl (co_loop c (by omega)) hA hP hC (by omega) (by rw [coK_len];omega) (by omega))
end
end Go.Proofs.Ytfjapapiappacaa.Px
namespace Go.Proofs.Ytfjapapiappacaa.Px
section
open Go.RowKit Go.Proofs.Ytfjapapiappacaa.Rx
def stA (r0 r1 r2 r3:Int) (m:List Int) (sk:AV) (pc:Int):List AV:=[.int .i64 r0, .int .i64 r1, .int .i64 r2, .int .i64 r3, .row 1 m.length (rowI m),sk, .int .i64 pc]
def rptrA (cs:List AV):AV:= .rptr 7 (fun q=>cs.getD q .junk) 0
def oneI (n:Int):AV:= .row 1 1 fun i j=>[AV.int .i64 n].getD ((i+0)*1+j) .junk
def catF (r0 r1 r2 r3:Int) (m:List Int) (sk:AV) (n:Nat) (pc:Int):Nat→Nat→AV:=fun i j=>
 [AV.row 1 4 fun i k=>(stA r0 r1 r2 r3 m sk pc).getD (0+(i*1+k)) .junk,oneI m.length, .row 1 m.length (rowI m),oneI n,sk,oneI pc].getD (i*1+j) .junk
def catL (r0 r1 r2 r3:Int) (m:List Int) (st:List Int) (pc:Int):List (List Int):=[[r0,r1,r2,r3],[(m.length:Int)],m,[(st.length:Int)],st,[pc]]
def stL (r0 r1 r2 r3:Int) (m:List Int) (st:List Int) (pc:Int):List Int:=(catL r0 r1 r2 r3 m st pc).flatten
def stBox (cs:List AV):Nat×Blk:=(0,⟨0,false,27, .box cs⟩)
def cdI (cs:List AV):Sm:=⟨[(1, .bptr 0 0)],[stBox cs],1⟩
def cdZ (cs:List AV):Sm:=⟨[(1,rptrA cs)],[],0⟩
def cdJ (L:List Int):Sm:=⟨[(3, .own 0 0 1 0 L.length)],[(0,blkI L)],1⟩
theorem stL_len (r0 r1 r2 r3:Int) (m st:List Int) (pc:Int):(stL r0 r1 r2 r3 m st pc).length=m.length+st.length+7:=by
 simp [stL,catL];omega
theorem zC60 (r0:Int) (r1:Int) (r2:Int) (r3:Int) (m:List Int) (pc:Int) (st:List Int) {Z:Prop} (z:Z):(RF r0 (RF r1 (RF r2 (RF r3 (RF m.length (RR m.length 1 (fun i j=>aI (m.getD i 0)) (RF st.length (RR st.length 1 (fun i j=>aI (st.getD i 0)) (RF pc Z))))))))):=⟨rfl,rfl,rfl,rfl,rfl,fun _ _ _ _=>rfl,rfl,fun _ _ _ _=>rfl,rfl,z⟩
theorem cdz_r (r0 r1 r2 r3:Int) (m:List Int) (pc:Int) (st:List Int):Vc (vcZ 1 (cdI (stA r0 r1 r2 r3 m (.row 1 st.length (rowI st)) pc)) [] (cdZ (stA r0 r1 r2 r3 m (.row 1 st.length (rowI st)) pc))):=vc_by (zC60 r0 r1 r2 r3 m pc st trivial) (by kernel_rfl)
theorem cdr_r (r0 r1 r2 r3:Int) (m:List Int) (pc:Int) (st:List Int) (hl:(stL r0 r1 r2 r3 m st pc).length≤1000000):Vc (vcC Try.prog false (ntOf Try.prog 41) (subC Try.prog 41 [1,0]) (cdZ (stA r0 r1 r2 r3 m (.row 1 st.length (rowI st)) pc)) [.cl [.row 1 6 (catF r0 r1 r2 r3 m (.row 1 st.length (rowI st)) st.length pc)] (.own 0 0 1 0 (stL r0 r1 r2 r3 m st pc).length) [blkI (stL r0 r1 r2 r3 m st pc)]] .nrm [(0,4)] (cdJ (stL r0 r1 r2 r3 m st pc))):=vc_by (cj (rf (6:Nat)) (cj (rr 6 1 fun i j=>catF r0 r1 r2 r3 m (AV.row (1:Nat) st.length (rowI st)) st.length pc i j) (cj (show PureC Try.prog 61 [.row 1 6 (catF r0 r1 r2 r3 m (.row 1 st.length (rowI st)) st.length pc)] (.own 0 0 1 0 (stL r0 r1 r2 r3 m st pc).length) [blkI (stL r0 r1 r2 r3 m st pc)] from concatC (L:=catL r0 r1 r2 r3 m st pc) (f:=catF r0 r1 r2 r3 m (.row 1 st.length (rowI st)) st.length pc) (fun i hi=>match i,hi with
    |0,_=> .inr ⟨_,rfl,fun i hi=>match i,hi with |0,_=>rfl |1,_=>rfl |2,_=>rfl |3,_=>rfl⟩
    |1,_=> .inr ⟨_,rfl,fun i hi=>match i,hi with |0,_=>rfl⟩
    |2,_=> .row m
    |3,_=> .inr ⟨_,rfl,fun i hi=>match i,hi with |0,_=>rfl⟩
    |4,_=> .row st
    |5,_=> .inr ⟨_,rfl,fun i hi=>match i,hi with |0,_=>rfl⟩) (by show 0<(stL r0 r1 r2 r3 m st pc).length;rw [stL_len];omega) hl (by simp [catL])) (cj (rf ((r0::r1::r2::r3::(m.length:Int)::List.append._f [] PUnit.unit (List.flatten._f [m,[(st.length:Int)],st,[pc]] (List.rec ⟨[],PUnit.unit⟩ (fun (head:List Int) (tail:List (List Int)) (tail_ih:List Int×' List.below tail)=>⟨List.flatten._f (head::tail) tail_ih,tail_ih⟩) [[(st.length:Int)],st,[pc]]))).length)) (cj (rr ((r0::r1::r2::r3::(m.length:Int)::List.append._f [] PUnit.unit (List.flatten._f [m,[(st.length:Int)],st,[pc]] (List.rec ⟨[],PUnit.unit⟩ (fun (head:List Int) (tail:List (List Int)) (tail_ih:List Int×' List.below tail)=>⟨List.flatten._f (head::tail) tail_ih,tail_ih⟩) [[(st.length:Int)],st,[pc]]))).length) 1 fun i j=>aI (List.getD (r0::r1::r2::r3::(m.length:Int)::List.append._f [] PUnit.unit (List.flatten._f [m,[(st.length:Int)],st,[pc]] (List.rec ⟨[],PUnit.unit⟩ (fun (head:List Int) (tail:List (List Int)) (tail_ih:List Int×' List.below tail)=>⟨List.flatten._f (head::tail) tail_ih,tail_ih⟩) [[(st.length:Int)],st,[pc]]))) i (0:Int))) (cj (rf (0:Nat)) (cj (rf ((r0::r1::r2::r3::(m.length:Int)::List.append._f [] PUnit.unit (List.flatten._f [m,[(st.length:Int)],st,[pc]] (List.rec ⟨[],PUnit.unit⟩ (fun (head:List Int) (tail:List (List Int)) (tail_ih:List Int×' List.below tail)=>⟨List.flatten._f (head::tail) tail_ih,tail_ih⟩) [[(st.length:Int)],st,[pc]]))).length)) trivial))))))) (by kernel_rfl)
theorem cdf_r (r0 r1 r2 r3:Int) (m:List Int) (pc:Int) (st:List Int) (hl:(stL r0 r1 r2 r3 m st pc).length≤1000000) (hi:Cd.isI (stL r0 r1 r2 r3 m st pc)):Vc (vcFn Try.prog false 41 [.agg (stA r0 r1 r2 r3 m (.row 1 st.length (rowI st)) pc)] [.le [] ⟨[(0, .agg (stA r0 r1 r2 r3 m (.row 1 st.length (rowI st)) pc))],[],0⟩, .sr [(0,0)] (cdI (stA r0 r1 r2 r3 m (.row 1 st.length (rowI st)) pc)) .nrm (cdJ (stL r0 r1 r2 r3 m st pc)), .cl [.row 1 (stL r0 r1 r2 r3 m st pc).length (rowI (stL r0 r1 r2 r3 m st pc))] (.own 0 0 1 0 (Cd.putL (stL r0 r1 r2 r3 m st pc)).length) [blkB (Cd.putL (stL r0 r1 r2 r3 m st pc))]] [(0,1)] (.own 0 0 1 0 (Cd.putL (stL r0 r1 r2 r3 m st pc)).length) [blkB (Cd.putL (stL r0 r1 r2 r3 m st pc))]):=vc_by (zC60 r0 r1 r2 r3 m pc st (zC60 r0 r1 r2 r3 m pc st (cj (Ok.freeze (cdz_r r0 r1 r2 r3 m pc st) (Ok.vc (cdr_r r0 r1 r2 r3 m pc st hl))) (cj (rf ((r0::r1::r2::r3::(m.length:Int)::List.append._f [] PUnit.unit (List.flatten._f [m,[(st.length:Int)],st,[pc]] (List.rec ⟨[],PUnit.unit⟩ (fun (head:List Int) (tail:List (List Int)) (tail_ih:List Int×' List.below tail)=>⟨List.flatten._f (head::tail) tail_ih,tail_ih⟩) [[(st.length:Int)],st,[pc]]))).length)) (cj (rr ((r0::r1::r2::r3::(m.length:Int)::List.append._f [] PUnit.unit (List.flatten._f [m,[(st.length:Int)],st,[pc]] (List.rec ⟨[],PUnit.unit⟩ (fun (head:List Int) (tail:List (List Int)) (tail_ih:List Int×' List.below tail)=>⟨List.flatten._f (head::tail) tail_ih,tail_ih⟩) [[(st.length:Int)],st,[pc]]))).length) 1 fun i j=>aI (List.getD (r0::r1::r2::r3::(m.length:Int)::List.append._f [] PUnit.unit (List.flatten._f [m,[(st.length:Int)],st,[pc]] (List.rec ⟨[],PUnit.unit⟩ (fun (head:List Int) (tail:List (List Int)) (tail_ih:List Int×' List.below tail)=>⟨List.flatten._f (head::tail) tail_ih,tail_ih⟩) [[(st.length:Int)],st,[pc]]))) i (0:Int))) (cj (show PureC Try.prog 42 [.row 1 (stL r0 r1 r2 r3 m st pc).length (rowI (stL r0 r1 r2 r3 m st pc))] (.own 0 0 1 0 (Cd.putL (stL r0 r1 r2 r3 m st pc)).length) [blkB (Cd.putL (stL r0 r1 r2 r3 m st pc))] from putC (.row _) hl hi) (cj (rf ((Cd.putL (r0::r1::r2::r3::(m.length:Int)::List.append._f [] PUnit.unit (List.flatten._f [m,[(st.length:Int)],st,[pc]] (List.rec ⟨[],PUnit.unit⟩ (fun (head:List Int) (tail:List (List Int)) (tail_ih:List Int×' List.below tail)=>⟨List.flatten._f (head::tail) tail_ih,tail_ih⟩) [[(st.length:Int)],st,[pc]])))).length)) (cj (rr ((Cd.putL (r0::r1::r2::r3::(m.length:Int)::List.append._f [] PUnit.unit (List.flatten._f [m,[(st.length:Int)],st,[pc]] (List.rec ⟨[],PUnit.unit⟩ (fun (head:List Int) (tail:List (List Int)) (tail_ih:List Int×' List.below tail)=>⟨List.flatten._f (head::tail) tail_ih,tail_ih⟩) [[(st.length:Int)],st,[pc]])))).length) 1 fun i j=>AV.int IntKind.u8 (List.getD (Cd.putL (r0::r1::r2::r3::(m.length:Int)::List.append._f [] PUnit.unit (List.flatten._f [m,[(st.length:Int)],st,[pc]] (List.rec ⟨[],PUnit.unit⟩ (fun (head:List Int) (tail:List (List Int)) (tail_ih:List Int×' List.below tail)=>⟨List.flatten._f (head::tail) tail_ih,tail_ih⟩) [[(st.length:Int)],st,[pc]])))) i (0:Int))) (cj (rf (0:Nat)) (cj (rf ((Cd.putL (r0::r1::r2::r3::(m.length:Int)::List.append._f [] PUnit.unit (List.flatten._f [m,[(st.length:Int)],st,[pc]] (List.rec ⟨[],PUnit.unit⟩ (fun (head:List Int) (tail:List (List Int)) (tail_ih:List Int×' List.below tail)=>⟨List.flatten._f (head::tail) tail_ih,tail_ih⟩) [[(st.length:Int)],st,[pc]])))).length)) trivial)))))))))) (by kernel_rfl)
theorem codeC_r (r0 r1 r2 r3:Int) (m:List Int) (pc:Int) (st:List Int) (hl:(stL r0 r1 r2 r3 m st pc).length≤1000000) (hi:Cd.isI (stL r0 r1 r2 r3 m st pc)):PureC Try.prog 41 [.agg (stA r0 r1 r2 r3 m (.row 1 st.length (rowI st)) pc)] (.own 0 0 1 0 (Cd.putL (stL r0 r1 r2 r3 m st pc)).length) [blkB (Cd.putL (stL r0 r1 r2 r3 m st pc))]:=PureC.vc (cdf_r r0 r1 r2 r3 m pc st hl hi)
theorem stL_ints (s:S8):stL s.r0 s.r1 s.r2 s.r3 s.m s.st s.pc=intsL s:=by simp [stL,catL,intsL]
theorem acodeO (s:S8) (hm:s.m.length<100000) (ht:s.st.length<100000) (hi:Cd.isI (intsL s)):PureC Try.prog 41 [.agg (s8R s)] (.own 0 0 1 0 (Cd.putL (intsL s)).length) [blkB (Cd.putL (intsL s))]:=by
 have h:=codeC_r s.r0 s.r1 s.r2 s.r3 s.m s.pc s.st
 rw [stL_ints] at h
 exact h (by rw [intsL_len];omega) hi
theorem confCode (c:Cf) (hb:c.b.length<100000) (hr:c.r.length<100000) (hm:c.s.m.length<100000) (ht:c.s.st.length<100000) (hi:Cd.isI (ciL c)):PureC Try.prog 22 [.agg (cfA c)] (.own 0 0 1 0 (Cd.putL (ciL c)).length) [blkB (Cd.putL (ciL c))]:=by
 rw [ciL_co] at hi
 have h1:Cd.isI (intsL c.s):=fun x hx=>hi x (List.mem_append_left _ hx)
 have h2:Cd.isI (coL c):=fun x hx=>hi x (List.mem_append_right _ hx)
 have h3:=Cd.putL_len_le (intsL c.s)
 rw [intsL_len] at h3
 exact codeO c (acodeO c.s hm ht h1).frozen hb hr (by omega) h2
theorem confCodeF (c:Cf) (hb:c.b.length<100000) (hr:c.r.length<100000) (hm:c.s.m.length<100000) (ht:c.s.st.length<100000) (hi:Cd.isI (ciL c)):PureC Try.prog 22 [.agg (cfA c)] (bR (Cd.putL (ciL c))) []:=(confCode c hb hr hm ht hi).frozen
end
end Go.Proofs.Ytfjapapiappacaa.Px
namespace Go.Proofs.Ytfjapapiappacaa.Px
section
open Go.RowKit Go.Proofs.Ytfjapapiappacaa.Rx
end
end Go.Proofs.Ytfjapapiappacaa.Px
namespace Go.Proofs.Ytfjapapiappacaa.Px
section
open Go.RowKit Go.Proofs.Ytfjapapiappacaa.Rx
def cW:Cf:=⟨⟨0,0,0,0,[4],[],0⟩,[],[],0⟩
def bW:List Int:=[1,1,1,1,2,5,1,1,1,1,1]
def lW:List Int:=[0,0,0,0,1,4,0,0,0,0,0]
def hW:Cf:=⟨⟨0,0,0,0,[],[],0⟩,[],[],1⟩
def bgA (s:S8):List AV:=s8R s++[.nils, .nils, .int .i64 0]
theorem begF (s:S8) (hm:s.m.length<1000000) (ht:s.st.length<1000000):PureC Try.prog 16 [.agg (s8R s)] (.agg (bgA s)) []:=(PureC.vc (beg0_vc s (cloneC (.row s.m) (by omega)) (cloneC (.row s.st) (by omega)))).frozen
theorem code_W:PureC Try.prog 22 [.agg (cfA cW)] (bR bW) []:=confCodeF cW (by decide) (by decide) (by decide) (by decide) (by unfold Cd.isI;decide)
theorem isB_W:Cd.isB bW:=by unfold Cd.isB;decide
theorem isB_W5:Cd.isB [1,1,1,1,2]:=by unfold Cd.isB;decide
theorem sC80: ∀ (i:Nat),i<11→AV.int IntKind.u8 (List.getD [(1:Int),(1:Int),(1:Int),(1:Int),(2:Int),(5:Int),(1:Int),(1:Int),(1:Int),(1:Int),(1:Int)] i (0:Int))=AV.int IntKind.u8 (List.getD [(1:Int),(1:Int),(1:Int),(1:Int),(2:Int),(5:Int),(1:Int),(1:Int),(1:Int),(1:Int),(1:Int)] i (0:Int)):=(fun _ _=>rfl)
theorem zC80 {Z:Prop} (z:Z):(RF (0:Nat) (RF (0:Nat) (RF (0:Int) Z))):=⟨rfl,rfl,rfl,z⟩
theorem zC81 {Z:Prop} (z:Z):(RF (0:Int) (RF (0:Int) (RF (0:Int) (RF (0:Int) (RF (1:Nat) (RR 1 1 (fun i j=>aI (List.getD [(4:Int)] i (0:Int))) (RF (0:Nat) (RR 0 1 (fun i j=>aI (List.getD [] i (0:Int))) (RF (0:Int) Z))))))))):=⟨rfl,rfl,rfl,rfl,rfl,fun _ _ _ _=>rfl,rfl,fun _ _ _ _=>rfl,rfl,z⟩
theorem awake_vc (h1:PureC Try.prog 16 [.agg (s8R cW.s)] (.agg (bgA cW.s)) []) (h2:PureC Try.prog 22 [.agg (cfA cW)] (bR bW) []) (h3:PureC Try.prog 8 [bR bW] (.tup [.agg (cfA cW), .bool true]) []) (h4:PureC Try.prog 8 [bR [1,1,1,1,2]] (.tup [.agg (cfA Cf0), .bool false]) []) (h5:PureC Try.prog 9 [lR lW] (bR bW) []) (h6:PureC Try.prog 10 [.agg (cfA cW), .agg (cfA cW)] (.bool true) []) (h7:PureC Try.prog 17 [.agg (cfA cW)] (.bool false) []) (h8:PureC Try.prog 17 [.agg (cfA hW)] (.bool true) []):Vc (vcFn Try.prog false 13 [] [.cl [.agg (s8R cW.s)] (.agg (bgA cW.s)) [], .cl [.agg (cfA cW)] (bR bW) [], .cl [bR bW] (.tup [.agg (cfA cW), .bool true]) [], .cl [bR [1,1,1,1,2]] (.tup [.agg (cfA Cf0), .bool false]) [], .by_ bW, .cl [lR lW] (bR bW) [], .by_ bW, .bd true, .cl [.agg (cfA cW), .agg (cfA cW)] (.bool true) [], .cl [.agg (cfA cW)] (.bool false) [], .cl [.agg (cfA hW)] (.bool true) []] [] (.bool true) []):=vc_by (cj (rf (0:Int)) (cj (rf (0:Int)) (cj (rf (0:Int)) (cj (rf (0:Int)) (cj (rf (1:Nat)) (cj (show ∀ (i:Nat),i<1→ ∀ (j:Nat),j<1→List.getD [aI (4:Int)] ((i+0)*1+j) AV.junk=aI (List.getD [(4:Int)] i (0:Int)) from (fun i hi j hj=>match i,hi,j,hj with |0,_,0,_=>rfl)) (cj (rf (0:Nat)) (cj (rf (0:Int)) (cj h1 (zC81 (zC80 (cj h2 (cj (rf (11:Nat)) (cj (rr 11 1 fun i j=>AV.int IntKind.u8 (List.getD [(1:Int),(1:Int),(1:Int),(1:Int),(2:Int),(5:Int),(1:Int),(1:Int),(1:Int),(1:Int),(1:Int)] i (0:Int))) (cj h3 (cj (pv ((2:Int)≠0)) (cj (show inK IntKind.i64 (Int.tdiv ((11:Nat):Int) (2:Int)) from (in64 (by decide) (by decide))) (cj (show (0:Int)≤Int.tdiv ((11:Nat):Int) (2:Int)∧Int.tdiv ((11:Nat):Int) (2:Int)≤((11:Nat):Int) from by decide) (cj (rf (5:Nat)) (cj (show ∀ (i:Nat),i<5→ ∀ (j:Nat),j<1→AV.int IntKind.u8 (List.getD [(1:Int),(1:Int),(1:Int),(1:Int),(2:Int),(5:Int),(1:Int),(1:Int),(1:Int),(1:Int),(1:Int)] i (0:Int))=AV.int IntKind.u8 (List.getD [(1:Int),(1:Int),(1:Int),(1:Int),(2:Int)] i (0:Int)) from (fun i hi j hj=>match i,hi,j,hj with |0,_,0,_=>rfl |1,_,0,_=>rfl |2,_,0,_=>rfl |3,_,0,_=>rfl |4,_,0,_=>rfl)) (cj h4 (cj (rf (11:Nat)) (cj (sC80) (cj (rf (11:Nat)) (cj (show ∀ (i:Nat),i<11→ ∀ (j:Nat),j<1→List.getD [aI (0:Int),aI (0:Int),aI (0:Int),aI (0:Int),aI (1:Int),aI (4:Int),aI (0:Int),aI (0:Int),aI (0:Int),aI (0:Int),aI (0:Int)] ((i+0)*1+j) AV.junk=aI (List.getD [(0:Int),(0:Int),(0:Int),(0:Int),(1:Int),(4:Int),(0:Int),(0:Int),(0:Int),(0:Int),(0:Int)] i (0:Int)) from (fun i hi j hj=>match i,hi,j,hj with |0,_,0,_=>rfl |1,_,0,_=>rfl |2,_,0,_=>rfl |3,_,0,_=>rfl |4,_,0,_=>rfl |5,_,0,_=>rfl |6,_,0,_=>rfl |7,_,0,_=>rfl |8,_,0,_=>rfl |9,_,0,_=>rfl |10,_,0,_=>rfl)) (cj h5 (cj (rf (11:Nat)) (cj (sC80) (cj (show ([ByteArray.get! (Go.strOfNums [(1:Int),(1:Int),(1:Int),(1:Int),(2:Int),(5:Int),(1:Int),(1:Int),(1:Int),(1:Int),(1:Int)]) (0:Nat),ByteArray.get! (Go.strOfNums [(1:Int),(1:Int),(1:Int),(1:Int),(2:Int),(5:Int),(1:Int),(1:Int),(1:Int),(1:Int),(1:Int)]) (1:Nat),ByteArray.get! (Go.strOfNums [(1:Int),(1:Int),(1:Int),(1:Int),(2:Int),(5:Int),(1:Int),(1:Int),(1:Int),(1:Int),(1:Int)]) (2:Nat),ByteArray.get! (Go.strOfNums [(1:Int),(1:Int),(1:Int),(1:Int),(2:Int),(5:Int),(1:Int),(1:Int),(1:Int),(1:Int),(1:Int)]) (3:Nat),ByteArray.get! (Go.strOfNums [(1:Int),(1:Int),(1:Int),(1:Int),(2:Int),(5:Int),(1:Int),(1:Int),(1:Int),(1:Int),(1:Int)]) (4:Nat),ByteArray.get! (Go.strOfNums [(1:Int),(1:Int),(1:Int),(1:Int),(2:Int),(5:Int),(1:Int),(1:Int),(1:Int),(1:Int),(1:Int)]) (5:Nat),ByteArray.get! (Go.strOfNums [(1:Int),(1:Int),(1:Int),(1:Int),(2:Int),(5:Int),(1:Int),(1:Int),(1:Int),(1:Int),(1:Int)]) (6:Nat),ByteArray.get! (Go.strOfNums [(1:Int),(1:Int),(1:Int),(1:Int),(2:Int),(5:Int),(1:Int),(1:Int),(1:Int),(1:Int),(1:Int)]) (7:Nat),ByteArray.get! (Go.strOfNums [(1:Int),(1:Int),(1:Int),(1:Int),(2:Int),(5:Int),(1:Int),(1:Int),(1:Int),(1:Int),(1:Int)]) (8:Nat),ByteArray.get! (Go.strOfNums [(1:Int),(1:Int),(1:Int),(1:Int),(2:Int),(5:Int),(1:Int),(1:Int),(1:Int),(1:Int),(1:Int)]) (9:Nat),ByteArray.get! (Go.strOfNums [(1:Int),(1:Int),(1:Int),(1:Int),(2:Int),(5:Int),(1:Int),(1:Int),(1:Int),(1:Int),(1:Int)]) (10:Nat)]==[ByteArray.get! (Go.strOfNums [(1:Int),(1:Int),(1:Int),(1:Int),(2:Int),(5:Int),(1:Int),(1:Int),(1:Int),(1:Int),(1:Int)]) (0:Nat),ByteArray.get! (Go.strOfNums [(1:Int),(1:Int),(1:Int),(1:Int),(2:Int),(5:Int),(1:Int),(1:Int),(1:Int),(1:Int),(1:Int)]) (1:Nat),ByteArray.get! (Go.strOfNums [(1:Int),(1:Int),(1:Int),(1:Int),(2:Int),(5:Int),(1:Int),(1:Int),(1:Int),(1:Int),(1:Int)]) (2:Nat),ByteArray.get! (Go.strOfNums [(1:Int),(1:Int),(1:Int),(1:Int),(2:Int),(5:Int),(1:Int),(1:Int),(1:Int),(1:Int),(1:Int)]) (3:Nat),ByteArray.get! (Go.strOfNums [(1:Int),(1:Int),(1:Int),(1:Int),(2:Int),(5:Int),(1:Int),(1:Int),(1:Int),(1:Int),(1:Int)]) (4:Nat),ByteArray.get! (Go.strOfNums [(1:Int),(1:Int),(1:Int),(1:Int),(2:Int),(5:Int),(1:Int),(1:Int),(1:Int),(1:Int),(1:Int)]) (5:Nat),ByteArray.get! (Go.strOfNums [(1:Int),(1:Int),(1:Int),(1:Int),(2:Int),(5:Int),(1:Int),(1:Int),(1:Int),(1:Int),(1:Int)]) (6:Nat),ByteArray.get! (Go.strOfNums [(1:Int),(1:Int),(1:Int),(1:Int),(2:Int),(5:Int),(1:Int),(1:Int),(1:Int),(1:Int),(1:Int)]) (7:Nat),ByteArray.get! (Go.strOfNums [(1:Int),(1:Int),(1:Int),(1:Int),(2:Int),(5:Int),(1:Int),(1:Int),(1:Int),(1:Int),(1:Int)]) (8:Nat),ByteArray.get! (Go.strOfNums [(1:Int),(1:Int),(1:Int),(1:Int),(2:Int),(5:Int),(1:Int),(1:Int),(1:Int),(1:Int),(1:Int)]) (9:Nat),ByteArray.get! (Go.strOfNums [(1:Int),(1:Int),(1:Int),(1:Int),(2:Int),(5:Int),(1:Int),(1:Int),(1:Int),(1:Int),(1:Int)]) (10:Nat)])=true from (beq_self_eq_true _)) (zC81 (cj (rf (0:Nat)) (cj (rr 0 8 fun i j=>rowL enC [] i j) (cj (rf (0:Nat)) (cj (rr 0 1 fun i j=>aI (List.getD [] i (0:Int))) (cj (rf (0:Int)) (cj (rf (0:Int)) (cj (rf (0:Int)) (cj (rf (0:Int)) (cj (rf (0:Int)) (cj (rf (1:Nat)) (cj (rr 1 1 fun i j=>aI (List.getD [(4:Int)] i (0:Int))) (cj (rf (0:Nat)) (cj (rr 0 1 fun i j=>aI (List.getD [] i (0:Int))) (cj (rf (0:Int)) (cj (rf (0:Nat)) (cj (rf (0:Nat)) (cj (rf (0:Int)) (cj h6 (zC81 (zC80 (cj h7 (cj (rf (0:Int)) (cj (rf (0:Int)) (cj (rf (0:Int)) (cj (rf (0:Int)) (cj (rf (0:Nat)) (cj (rf (0:Nat)) (cj (rf (0:Int)) (cj (rf (0:Nat)) (cj (rf (0:Nat)) (cj (rf (1:Int)) (cj h8 (cj (rf true) trivial))))))))))))))))))))))))))))))))))))))))))))))))))))))))))))))) (by kernel_rfl)
theorem awakeC13:PureC Try.prog 13 [] (.bool true) []:=by
 have h6:=rsameC cW cW (by decide) (by decide) (by decide) (by decide) (by decide) (by decide) (by decide) (by decide)
 rw [decide_eq_true rfl] at h6
 exact PureC.vc (awake_vc (begF cW.s (by decide) (by decide)) code_W (parF bW cW isB_W (by decide) rfl) (parN _ isB_W5 (by decide) rfl) (rputC (.row lW) (by decide) (by unfold Cd.isI;decide)).frozen h6 (finC cW) (finC hW))
end
end Go.Proofs.Ytfjapapiappacaa.Px
namespace Go.Proofs.Ytfjapapiappacaa.Px
section
open Go.RowKit Go.Proofs.Ytfjapapiappacaa.Rx
def x2 (x:Int) (s:Nat):Int:=Int.fdiv x (2^s)
def v0:Vl:=⟨false,0⟩
end
end Go.Proofs.Ytfjapapiappacaa.Px
namespace Go.Proofs.Ytfjapapiappacaa.Px
section
open Go.RowKit Go.Proofs.Ytfjapapiappacaa.Rx
structure M1 where
 p:Int
 s:Int
 r0:Int
 r1:Int
 r2:Int
 r3:Int
def M1.set (m:M1) (k:Nat) (v:Int):M1:=match k with
 |0=>{m with r0:=v}
 |1=>{m with r1:=v}
 |2=>{m with r2:=v}
 |_=>{m with r3:=v}
end
end Go.Proofs.Ytfjapapiappacaa.Px
namespace Go.Proofs.Ytfjapapiappacaa.Px
section
open Go.RowKit Go.Proofs.Ytfjapapiappacaa.Rx
end
end Go.Proofs.Ytfjapapiappacaa.Px
namespace Go.Proofs.Ytfjapapiappacaa.Px
section
open Go.RowKit Go.Proofs.Ytfjapapiappacaa.Rx
end
end Go.Proofs.Ytfjapapiappacaa.Px
namespace Go.Proofs.Ytfjapapiappacaa.Px
section
open Go.RowKit Go.Proofs.Ytfjapapiappacaa.Rx
structure Liv (p:Pg) (c:Cf):Prop where
 e:c.e=0∨c.e=1∨c.e=2
 fin: ¬c.e=0→c.b=[]∧c.r=[]
 lst:c.s.pc= -1→c.e=0→ ∃ k,c.b.length=k+1∧((enX p c k).kind=11∨(enX p c k).kind=12)
 und: ∀ k,k<c.b.length→(c.b.getD k default).dn=false→(enX p c k).kind≠6∧(enX p c k).kind≠8∧(enX p c k).kind≠11∧(enX p c k).kind≠12
theorem Liv.up {p:Pg} {c:Cf} (h:Liv p c) (he:c.e=0) {k:Nat} (hk:k<c.b.length) {e:En} (hp:e.pc=(c.b.getD k default).pc) (hd:e.dn=false→(c.b.getD k default).dn=false):Liv p ⟨c.s,c.b.set k e,c.r,c.e⟩:=by
 have hpc: ∀ i,((c.b.set k e).getD i default).pc=(c.b.getD i default).pc:=fun i=>by
  rw [gdE_set hk]
  split
  ·rename_i hi;rw [hi];exact hp
  ·rfl
 have hx: ∀ i,enX p ⟨c.s,c.b.set k e,c.r,c.e⟩ i=enX p c i:=fun i=>by
  show atI p ((c.b.set k e).getD i default).pc=_
  rw [hpc];rfl
 refine ⟨h.e,fun hn=>absurd he hn,fun h1 h2=> ?_,fun i hi hdn=> ?_⟩
 ·obtain ⟨q,h3,h4⟩:=h.lst h1 h2
  exact ⟨q,(List.length_set).trans h3,by rw [hx];exact h4⟩
 ·have hi:i<c.b.length:=by have:(c.b.set k e).length=c.b.length:=List.length_set;exact this▸hi
  rw [hx]
  refine h.und i hi ?_
  have hdn:((c.b.set k e).getD i default).dn=false:=hdn
  rw [gdE_set hk] at hdn
  split at hdn
  ·rename_i hq;rw [hq];exact hd hdn
  ·exact hdn
theorem Liv.cut {p:Pg} {c:Cf} (h:Liv p c) (he:c.e=0) (n:Nat) {t:Int} (ht:0≤t):Liv p ⟨c.s.go t,c.b.take n,c.r,c.e⟩:=by
 refine ⟨h.e,fun hn=>absurd he hn,fun h1 _=> ?_,fun i hi hdn=> ?_⟩
 ·have:t= -1:=h1
  omega
 ·have hi:i<min n c.b.length:=by have:(c.b.take n).length=min n c.b.length:=List.length_take;exact this▸hi
  have e1:(c.b.take n).getD i default=c.b.getD i default:=gdE_take (by omega)
  have hdn:((c.b.take n).getD i default).dn=false:=hdn
  rw [e1] at hdn
  have:=h.und i (by omega) hdn
  show (atI p ((c.b.take n).getD i default).pc).kind≠6∧_
  unfold enX
  show (atI p ((c.b.take n).getD i default).pc).kind≠6∧(atI p ((c.b.take n).getD i default).pc).kind≠8∧(atI p ((c.b.take n).getD i default).pc).kind≠11∧(atI p ((c.b.take n).getD i default).pc).kind≠12
  rw [e1];exact this
end
end Go.Proofs.Ytfjapapiappacaa.Px
namespace Go.Proofs.Ytfjapapiappacaa.Px
section
open Go.RowKit Go.Proofs.Ytfjapapiappacaa.Rx
theorem isB_take {l:List Int} {n:Nat} (h:Cd.isB l):Cd.isB (l.take n):=fun x hx=>h x (List.mem_of_mem_take hx)
end
end Go.Proofs.Ytfjapapiappacaa.Px
namespace Go.Proofs.Ytfjapapiappacaa.Px
section
open Go.RowKit Go.Proofs.Ytfjapapiappacaa.Rx
def nl0:List Int:=[0,0,0,0,0,0,0,0,0,0]
def nb0:List Int:=[1,1,1,1,1,1,1,1,1,1]
def nl1:List Int:=[0,0,0,0,0,0,0,0,0]
def nb1:List Int:=[1,1,1,1,1,1,1,1,1]
def nl2:List Int:=[0,0,0,0,0,0,0,0,0,0,0]
def nb2:List Int:=[1,1,1,1,1,1,1,1,1,1,1]
def nl3:List Int:=[1,2,3,4,1,9,1,5, -1,0,0,1]
def nb3:List Int:=[2,3,4,5,2,10,2,6,0,1,1,2]
def nl4:List Int:=[0,0,0,0,1,0,0,0,0,0]
def nb4:List Int:=[1,1,1,1,2,1,1,1,1,1]
def nl5:List Int:=[0,0,0,0, -1,0,0,0,0,0]
def nb5:List Int:=[1,1,1,1,0,1,1,1,1,1]
def nl6:List Int:=[0,0,0,0,1099511627776,0,0,0,0,0]
def nb6:List Int:=[1,1,1,1,255,0,0,1,0,0,0,0,0,1,1,1,1,1]
def nl7:List Int:=[0,0,0,0,0,0,0,1,1,2,3, -1,4,1,0,1,0,0]
def nb7:List Int:=[1,1,1,1,1,1,1,2,2,3,4,0,5,2,1,2,1,1]
def nl8:List Int:=[0,0,0,0,0,0,0,1,1,2,3, -1,4,2,0,1,0,0]
def nb8:List Int:=[1,1,1,1,1,1,1,2,2,3,4,0,5,3,1,2,1,1]
def nl9:List Int:=[0,0,0,0,0,0,0,1,1,2,3, -1,4,1,0, -1,0,0]
def nb9:List Int:=[1,1,1,1,1,1,1,2,2,3,4,0,5,2,1,0,1,1]
def nl10:List Int:=[0,0,0,0,0,0,0,0,2,7,8,2]
def nb10:List Int:=[1,1,1,1,1,1,1,1,3,8,9,3]
def nl11:List Int:=[0,0,0,0,0,0,0,0,2,7,2]
def nb11:List Int:=[1,1,1,1,1,1,1,1,3,8,3]
def nc0:Cf:=⟨⟨0,0,0,0,[],[],0⟩,[],[],0⟩
def nc3:Cf:=⟨⟨1,2,3,4,[9],[5], -1⟩,[],[],1⟩
def nc7:Cf:=⟨⟨0,0,0,0,[],[],0⟩,[⟨1,2,3, -1,4,true,false,true⟩],[],0⟩
def nc10:Cf:=⟨⟨0,0,0,0,[],[],0⟩,[],[7,8],2⟩
theorem sC110: ∀ (i:Nat),i<10→ ∀ (j:Nat),j<1→List.getD [aI (0:Int),aI (0:Int),aI (0:Int),aI (0:Int),aI (0:Int),aI (0:Int),aI (0:Int),aI (0:Int),aI (0:Int),aI (0:Int)] ((i+0)*1+j) AV.junk=aI (List.getD [(0:Int),(0:Int),(0:Int),(0:Int),(0:Int),(0:Int),(0:Int),(0:Int),(0:Int),(0:Int)] i (0:Int)):=(fun i hi j hj=>match i,hi,j,hj with |0,_,0,_=>rfl |1,_,0,_=>rfl |2,_,0,_=>rfl |3,_,0,_=>rfl |4,_,0,_=>rfl |5,_,0,_=>rfl |6,_,0,_=>rfl |7,_,0,_=>rfl |8,_,0,_=>rfl |9,_,0,_=>rfl)
theorem zC110 {Z:Prop} (z:Z):(RF true (RF (0:Int) (RF (0:Int) (RF (0:Int) (RF (0:Int) (RF (0:Nat) (RR 0 1 (fun i j=>aI (List.getD [] i (0:Int))) (RF (0:Nat) (RR 0 1 (fun i j=>aI (List.getD [] i (0:Int))) Z))))))))):=⟨rfl,rfl,rfl,rfl,rfl,rfl,fun _ _ _ _=>rfl,rfl,fun _ _ _ _=>rfl,z⟩
abbrev oC110:Orc:= .cl [] (.bool true) []
theorem none0 (n:Int) (hq:Int.tmod (bits .and .i64 n 255) 12=0) (h1:PureC Try.prog 9 [lR nl0] (bR nb0) []) (h2:PureC Try.prog 8 [bR nb0] (.tup [.agg (cfA nc0), .bool true]) []) (h3:PureC Try.prog 12 [.agg (cfA nc0)] (lR nl0) []) (h4:PureC Try.prog 11 [lR nl0,lR nl0] (.bool true) []):Vc (vcFn Try.prog false 3 [.int .i64 n] [.iy 0, .cl [lR nl0] (bR nb0) [], .cl [bR nb0] (.tup [.agg (cfA nc0), .bool true]) [], .bd true, .cl [.agg (cfA nc0)] (lR nl0) [], .cl [lR nl0,lR nl0] (.bool true) [],oC110] [] (.bool true) []):=vc_by (cj (pv (((12:Nat):Int)≠0)) (cj (pv (Int.tmod (Go.bits Go.BinOp.and IntKind.i64 n (255:Int)) ((12:Nat):Int)=((0:Nat):Int))) (cj (bi ((0:Nat):Int) ((12:Nat):Int)) (cj (pv ((0:Nat)<12)) (cj (rf (10:Nat)) (cj (sC110) (cj h1 (cj (rf (10:Nat)) (cj (rr 10 1 fun i j=>AV.int IntKind.u8 (List.getD [(1:Int),(1:Int),(1:Int),(1:Int),(1:Int),(1:Int),(1:Int),(1:Int),(1:Int),(1:Int)] i (0:Int))) (cj h2 (zC110 (cj (rf (0:Int)) (cj (rf (0:Nat)) (cj (rr 0 8 fun i j=>rowL enC [] i j) (cj (rf (0:Nat)) (cj (rr 0 1 fun i j=>aI (List.getD [] i (0:Int))) (cj (rf (0:Int)) (cj h3 (cj (rf (10:Nat)) (cj (rr 10 1 fun i j=>aI (List.getD [(0:Int),(0:Int),(0:Int),(0:Int),(0:Int),(0:Int),(0:Int),(0:Int),(0:Int),(0:Int)] i (0:Int))) (cj (rf (10:Nat)) (cj (sC110) (cj h4 (cj awakeC13 (cj (rf true) trivial))))))))))))))))))))))))) (by kernel_rfl)
theorem zC111 {Z:Prop} (z:Z):(RF (0:Int) (RF (0:Nat) (RF (0:Nat) (RF (0:Int) (RF (0:Nat) (RF (0:Nat) (RF (0:Int) Z))))))):=⟨rfl,rfl,rfl,rfl,rfl,rfl,rfl,z⟩
theorem zC112 {Z:Prop} (z:Z):(RF (0:Int) (RF (0:Nat) (RR 0 8 (fun i j=>rowL enC [] i j) (RF (0:Nat) (RR 0 1 (fun i j=>aI (List.getD [] i (0:Int))) (RF (0:Int) (RF (0:Int) (RF (0:Int) (RF (0:Int) Z))))))))):=⟨rfl,rfl,fun _ _ _ _=>rfl,rfl,fun _ _ _ _=>rfl,rfl,rfl,rfl,rfl,z⟩
abbrev qC111:Prop:=PureC Try.prog 10 [.agg (cfA Cf0), .agg (cfA Cf0)] (.bool true) []
abbrev oC112:Orc:= .cl [.agg (cfA Cf0), .agg (cfA Cf0)] (.bool true) []
theorem none1 (n:Int) (hq:Int.tmod (bits .and .i64 n 255) 12=1) (h1:PureC Try.prog 9 [lR nl1] (bR nb1) []) (h2:PureC Try.prog 8 [bR nb1] (.tup [.agg (cfA Cf0), .bool false]) []) (h3:qC111):Vc (vcFn Try.prog false 3 [.int .i64 n] [.iy 1, .cl [lR nl1] (bR nb1) [], .cl [bR nb1] (.tup [.agg (cfA Cf0), .bool false]) [], .bd true,oC112,oC110] [] (.bool true) []):=vc_by (cj (pv (((12:Nat):Int)≠0)) (cj (pv (Int.tmod (Go.bits Go.BinOp.and IntKind.i64 n (255:Int)) ((12:Nat):Int)=((1:Nat):Int))) (cj (bi ((1:Nat):Int) ((12:Nat):Int)) (cj (pv ((1:Nat)<12)) (cj (rf (9:Nat)) (cj (show ∀ (i:Nat),i<9→ ∀ (j:Nat),j<1→List.getD [aI (0:Int),aI (0:Int),aI (0:Int),aI (0:Int),aI (0:Int),aI (0:Int),aI (0:Int),aI (0:Int),aI (0:Int)] ((i+0)*1+j) AV.junk=aI (List.getD [(0:Int),(0:Int),(0:Int),(0:Int),(0:Int),(0:Int),(0:Int),(0:Int),(0:Int)] i (0:Int)) from (fun i hi j hj=>match i,hi,j,hj with |0,_,0,_=>rfl |1,_,0,_=>rfl |2,_,0,_=>rfl |3,_,0,_=>rfl |4,_,0,_=>rfl |5,_,0,_=>rfl |6,_,0,_=>rfl |7,_,0,_=>rfl |8,_,0,_=>rfl)) (cj h1 (cj (rf (9:Nat)) (cj (rr 9 1 fun i j=>AV.int IntKind.u8 (List.getD [(1:Int),(1:Int),(1:Int),(1:Int),(1:Int),(1:Int),(1:Int),(1:Int),(1:Int)] i (0:Int))) (cj h2 (zC110 (zC112 (zC111 (cj h3 (cj awakeC13 (cj (rf true) trivial)))))))))))))))) (by kernel_rfl)
theorem none2 (n:Int) (hq:Int.tmod (bits .and .i64 n 255) 12=2) (h1:PureC Try.prog 9 [lR nl2] (bR nb2) []) (h2:PureC Try.prog 8 [bR nb2] (.tup [.agg (cfA Cf0), .bool false]) []) (h3:qC111):Vc (vcFn Try.prog false 3 [.int .i64 n] [.iy 2, .cl [lR nl2] (bR nb2) [], .cl [bR nb2] (.tup [.agg (cfA Cf0), .bool false]) [], .bd true,oC112,oC110] [] (.bool true) []):=vc_by (cj (pv (((12:Nat):Int)≠0)) (cj (pv (Int.tmod (Go.bits Go.BinOp.and IntKind.i64 n (255:Int)) ((12:Nat):Int)=((2:Nat):Int))) (cj (bi ((2:Nat):Int) ((12:Nat):Int)) (cj (pv ((2:Nat)<12)) (cj (rf (11:Nat)) (cj (show ∀ (i:Nat),i<11→ ∀ (j:Nat),j<1→List.getD [aI (0:Int),aI (0:Int),aI (0:Int),aI (0:Int),aI (0:Int),aI (0:Int),aI (0:Int),aI (0:Int),aI (0:Int),aI (0:Int),aI (0:Int)] ((i+0)*1+j) AV.junk=aI (List.getD [(0:Int),(0:Int),(0:Int),(0:Int),(0:Int),(0:Int),(0:Int),(0:Int),(0:Int),(0:Int),(0:Int)] i (0:Int)) from (fun i hi j hj=>match i,hi,j,hj with |0,_,0,_=>rfl |1,_,0,_=>rfl |2,_,0,_=>rfl |3,_,0,_=>rfl |4,_,0,_=>rfl |5,_,0,_=>rfl |6,_,0,_=>rfl |7,_,0,_=>rfl |8,_,0,_=>rfl |9,_,0,_=>rfl |10,_,0,_=>rfl)) (cj h1 (cj (rf (11:Nat)) (cj (rr 11 1 fun i j=>AV.int IntKind.u8 (List.getD [(1:Int),(1:Int),(1:Int),(1:Int),(1:Int),(1:Int),(1:Int),(1:Int),(1:Int),(1:Int),(1:Int)] i (0:Int))) (cj h2 (zC110 (zC112 (zC111 (cj h3 (cj awakeC13 (cj (rf true) trivial)))))))))))))))) (by kernel_rfl)
theorem sC111: ∀ (i:Nat),i<12→ ∀ (j:Nat),j<1→List.getD [aI (1:Int),aI (2:Int),aI (3:Int),aI (4:Int),aI (1:Int),aI (9:Int),aI (1:Int),aI (5:Int),aI (-1:Int),aI (0:Int),aI (0:Int),aI (1:Int)] ((i+0)*1+j) AV.junk=aI (List.getD [(1:Int),(2:Int),(3:Int),(4:Int),(1:Int),(9:Int),(1:Int),(5:Int),(-1:Int),(0:Int),(0:Int),(1:Int)] i (0:Int)):=(fun i hi j hj=>match i,hi,j,hj with |0,_,0,_=>rfl |1,_,0,_=>rfl |2,_,0,_=>rfl |3,_,0,_=>rfl |4,_,0,_=>rfl |5,_,0,_=>rfl |6,_,0,_=>rfl |7,_,0,_=>rfl |8,_,0,_=>rfl |9,_,0,_=>rfl |10,_,0,_=>rfl |11,_,0,_=>rfl)
theorem none3 (n:Int) (hq:Int.tmod (bits .and .i64 n 255) 12=3) (h1:PureC Try.prog 9 [lR nl3] (bR nb3) []) (h2:PureC Try.prog 8 [bR nb3] (.tup [.agg (cfA nc3), .bool true]) []) (h3:PureC Try.prog 12 [.agg (cfA nc3)] (lR nl3) []) (h4:PureC Try.prog 11 [lR nl3,lR nl3] (.bool true) []):Vc (vcFn Try.prog false 3 [.int .i64 n] [.iy 3, .cl [lR nl3] (bR nb3) [], .cl [bR nb3] (.tup [.agg (cfA nc3), .bool true]) [], .bd true, .cl [.agg (cfA nc3)] (lR nl3) [], .cl [lR nl3,lR nl3] (.bool true) [],oC110] [] (.bool true) []):=vc_by (cj (pv (((12:Nat):Int)≠0)) (cj (pv (Int.tmod (Go.bits Go.BinOp.and IntKind.i64 n (255:Int)) ((12:Nat):Int)=((3:Nat):Int))) (cj (bi ((3:Nat):Int) ((12:Nat):Int)) (cj (pv ((3:Nat)<12)) (cj (rf (12:Nat)) (cj (sC111) (cj h1 (cj (rf (12:Nat)) (cj (rr 12 1 fun i j=>AV.int IntKind.u8 (List.getD [(2:Int),(3:Int),(4:Int),(5:Int),(2:Int),(10:Int),(2:Int),(6:Int),(0:Int),(1:Int),(1:Int),(2:Int)] i (0:Int))) (cj h2 (cj (rf true) (cj (rf (1:Int)) (cj (rf (2:Int)) (cj (rf (3:Int)) (cj (rf (4:Int)) (cj (rf (1:Nat)) (cj (rr 1 1 fun i j=>aI (List.getD [(9:Int)] i (0:Int))) (cj (rf (1:Nat)) (cj (rr 1 1 fun i j=>aI (List.getD [(5:Int)] i (0:Int))) (cj (rf (-1:Int)) (cj (rf (0:Nat)) (cj (rr 0 8 fun i j=>rowL enC [] i j) (cj (rf (0:Nat)) (cj (rr 0 1 fun i j=>aI (List.getD [] i (0:Int))) (cj (rf (1:Int)) (cj h3 (cj (rf (12:Nat)) (cj (rr 12 1 fun i j=>aI (List.getD [(1:Int),(2:Int),(3:Int),(4:Int),(1:Int),(9:Int),(1:Int),(5:Int),(-1:Int),(0:Int),(0:Int),(1:Int)] i (0:Int))) (cj (rf (12:Nat)) (cj (sC111) (cj h4 (cj awakeC13 (cj (rf true) trivial))))))))))))))))))))))))))))))))) (by kernel_rfl)
theorem none4 (n:Int) (hq:Int.tmod (bits .and .i64 n 255) 12=4) (h1:PureC Try.prog 9 [lR nl4] (bR nb4) []) (h2:PureC Try.prog 8 [bR nb4] (.tup [.agg (cfA Cf0), .bool false]) []) (h3:qC111):Vc (vcFn Try.prog false 3 [.int .i64 n] [.iy 4, .cl [lR nl4] (bR nb4) [], .cl [bR nb4] (.tup [.agg (cfA Cf0), .bool false]) [], .bd true,oC112,oC110] [] (.bool true) []):=vc_by (cj (pv (((12:Nat):Int)≠0)) (cj (pv (Int.tmod (Go.bits Go.BinOp.and IntKind.i64 n (255:Int)) ((12:Nat):Int)=((4:Nat):Int))) (cj (bi ((4:Nat):Int) ((12:Nat):Int)) (cj (pv ((4:Nat)<12)) (cj (rf (10:Nat)) (cj (show ∀ (i:Nat),i<10→ ∀ (j:Nat),j<1→List.getD [aI (0:Int),aI (0:Int),aI (0:Int),aI (0:Int),aI (1:Int),aI (0:Int),aI (0:Int),aI (0:Int),aI (0:Int),aI (0:Int)] ((i+0)*1+j) AV.junk=aI (List.getD [(0:Int),(0:Int),(0:Int),(0:Int),(1:Int),(0:Int),(0:Int),(0:Int),(0:Int),(0:Int)] i (0:Int)) from (fun i hi j hj=>match i,hi,j,hj with |0,_,0,_=>rfl |1,_,0,_=>rfl |2,_,0,_=>rfl |3,_,0,_=>rfl |4,_,0,_=>rfl |5,_,0,_=>rfl |6,_,0,_=>rfl |7,_,0,_=>rfl |8,_,0,_=>rfl |9,_,0,_=>rfl)) (cj h1 (cj (rf (10:Nat)) (cj (rr 10 1 fun i j=>AV.int IntKind.u8 (List.getD [(1:Int),(1:Int),(1:Int),(1:Int),(2:Int),(1:Int),(1:Int),(1:Int),(1:Int),(1:Int)] i (0:Int))) (cj h2 (zC110 (zC112 (zC111 (cj h3 (cj awakeC13 (cj (rf true) trivial)))))))))))))))) (by kernel_rfl)
theorem none5 (n:Int) (hq:Int.tmod (bits .and .i64 n 255) 12=5) (h1:PureC Try.prog 9 [lR nl5] (bR nb5) []) (h2:PureC Try.prog 8 [bR nb5] (.tup [.agg (cfA Cf0), .bool false]) []) (h3:qC111):Vc (vcFn Try.prog false 3 [.int .i64 n] [.iy 5, .cl [lR nl5] (bR nb5) [], .cl [bR nb5] (.tup [.agg (cfA Cf0), .bool false]) [], .bd true,oC112,oC110] [] (.bool true) []):=vc_by (cj (pv (((12:Nat):Int)≠0)) (cj (pv (Int.tmod (Go.bits Go.BinOp.and IntKind.i64 n (255:Int)) ((12:Nat):Int)=((5:Nat):Int))) (cj (bi ((5:Nat):Int) ((12:Nat):Int)) (cj (pv ((5:Nat)<12)) (cj (rf (10:Nat)) (cj (show ∀ (i:Nat),i<10→ ∀ (j:Nat),j<1→List.getD [aI (0:Int),aI (0:Int),aI (0:Int),aI (0:Int),aI (-1:Int),aI (0:Int),aI (0:Int),aI (0:Int),aI (0:Int),aI (0:Int)] ((i+0)*1+j) AV.junk=aI (List.getD [(0:Int),(0:Int),(0:Int),(0:Int),(-1:Int),(0:Int),(0:Int),(0:Int),(0:Int),(0:Int)] i (0:Int)) from (fun i hi j hj=>match i,hi,j,hj with |0,_,0,_=>rfl |1,_,0,_=>rfl |2,_,0,_=>rfl |3,_,0,_=>rfl |4,_,0,_=>rfl |5,_,0,_=>rfl |6,_,0,_=>rfl |7,_,0,_=>rfl |8,_,0,_=>rfl |9,_,0,_=>rfl)) (cj h1 (cj (rf (10:Nat)) (cj (rr 10 1 fun i j=>AV.int IntKind.u8 (List.getD [(1:Int),(1:Int),(1:Int),(1:Int),(0:Int),(1:Int),(1:Int),(1:Int),(1:Int),(1:Int)] i (0:Int))) (cj h2 (zC110 (zC112 (zC111 (cj h3 (cj awakeC13 (cj (rf true) trivial)))))))))))))))) (by kernel_rfl)
theorem none6 (n:Int) (hq:Int.tmod (bits .and .i64 n 255) 12=6) (h1:PureC Try.prog 9 [lR nl6] (bR nb6) []) (h2:PureC Try.prog 8 [bR nb6] (.tup [.agg (cfA Cf0), .bool false]) []) (h3:qC111):Vc (vcFn Try.prog false 3 [.int .i64 n] [.iy 6, .cl [lR nl6] (bR nb6) [], .cl [bR nb6] (.tup [.agg (cfA Cf0), .bool false]) [], .bd true,oC112,oC110] [] (.bool true) []):=vc_by (cj (pv (((12:Nat):Int)≠0)) (cj (pv (Int.tmod (Go.bits Go.BinOp.and IntKind.i64 n (255:Int)) ((12:Nat):Int)=((6:Nat):Int))) (cj (bi ((6:Nat):Int) ((12:Nat):Int)) (cj (pv ((6:Nat)<12)) (cj (rf (10:Nat)) (cj (show ∀ (i:Nat),i<10→ ∀ (j:Nat),j<1→List.getD [aI (0:Int),aI (0:Int),aI (0:Int),aI (0:Int),aI (1099511627776:Int),aI (0:Int),aI (0:Int),aI (0:Int),aI (0:Int),aI (0:Int)] ((i+0)*1+j) AV.junk=aI (List.getD [(0:Int),(0:Int),(0:Int),(0:Int),(1099511627776:Int),(0:Int),(0:Int),(0:Int),(0:Int),(0:Int)] i (0:Int)) from (fun i hi j hj=>match i,hi,j,hj with |0,_,0,_=>rfl |1,_,0,_=>rfl |2,_,0,_=>rfl |3,_,0,_=>rfl |4,_,0,_=>rfl |5,_,0,_=>rfl |6,_,0,_=>rfl |7,_,0,_=>rfl |8,_,0,_=>rfl |9,_,0,_=>rfl)) (cj h1 (cj (rf (18:Nat)) (cj (rr 18 1 fun i j=>AV.int IntKind.u8 (List.getD [(1:Int),(1:Int),(1:Int),(1:Int),(255:Int),(0:Int),(0:Int),(1:Int),(0:Int),(0:Int),(0:Int),(0:Int),(0:Int),(1:Int),(1:Int),(1:Int),(1:Int),(1:Int)] i (0:Int))) (cj h2 (zC110 (zC112 (zC111 (cj h3 (cj awakeC13 (cj (rf true) trivial)))))))))))))))) (by kernel_rfl)
theorem sC112 (n:Int) (hq:Int.tmod (bits .and .i64 n 255) 12=7): ∀ (i:Nat),i<18→ ∀ (j:Nat),j<1→List.getD [aI (0:Int),aI (0:Int),aI (0:Int),aI (0:Int),aI (0:Int),aI (0:Int),aI (0:Int),aI (1:Int),aI (1:Int),aI (2:Int),aI (3:Int),aI (-1:Int),aI (4:Int),aI (1:Int),aI (0:Int),aI (1:Int),aI (0:Int),aI (0:Int)] ((i+0)*1+j) AV.junk=aI (List.getD [(0:Int),(0:Int),(0:Int),(0:Int),(0:Int),(0:Int),(0:Int),(1:Int),(1:Int),(2:Int),(3:Int),(-1:Int),(4:Int),(1:Int),(0:Int),(1:Int),(0:Int),(0:Int)] i (0:Int)):=(fun i hi j hj=>by obtain rfl:j=0:=(by omega);exact (Nat.lt_or_ge i 9).elim (fun h=>match i,h with |0,_=>rfl |1,_=>rfl |2,_=>rfl |3,_=>rfl |4,_=>rfl |5,_=>rfl |6,_=>rfl |7,_=>rfl |8,_=>rfl) (fun h=>by obtain ⟨q,rfl⟩: ∃ q,i=q+9:=⟨i-9,by omega⟩;exact (match q,(show q<9 by omega) with |0,_=>rfl |1,_=>rfl |2,_=>rfl |3,_=>rfl |4,_=>rfl |5,_=>rfl |6,_=>rfl |7,_=>rfl |8,_=>rfl)))
theorem none7 (n:Int) (hq:Int.tmod (bits .and .i64 n 255) 12=7) (h1:PureC Try.prog 9 [lR nl7] (bR nb7) []) (h2:PureC Try.prog 8 [bR nb7] (.tup [.agg (cfA nc7), .bool true]) []) (h3:PureC Try.prog 12 [.agg (cfA nc7)] (lR nl7) []) (h4:PureC Try.prog 11 [lR nl7,lR nl7] (.bool true) []):Vc (vcFn Try.prog false 3 [.int .i64 n] [.iy 7, .cl [lR nl7] (bR nb7) [], .cl [bR nb7] (.tup [.agg (cfA nc7), .bool true]) [], .bd true, .cl [.agg (cfA nc7)] (lR nl7) [], .cl [lR nl7,lR nl7] (.bool true) [],oC110] [] (.bool true) []):=vc_by (cj (pv (((12:Nat):Int)≠0)) (cj (pv (Int.tmod (Go.bits Go.BinOp.and IntKind.i64 n (255:Int)) ((12:Nat):Int)=((7:Nat):Int))) (cj (bi ((7:Nat):Int) ((12:Nat):Int)) (cj (pv ((7:Nat)<12)) (cj (rf (18:Nat)) (cj (sC112 n hq) (cj h1 (cj (rf (18:Nat)) (cj (rr 18 1 fun i j=>AV.int IntKind.u8 (List.getD [(1:Int),(1:Int),(1:Int),(1:Int),(1:Int),(1:Int),(1:Int),(2:Int),(2:Int),(3:Int),(4:Int),(0:Int),(5:Int),(2:Int),(1:Int),(2:Int),(1:Int),(1:Int)] i (0:Int))) (cj h2 (zC110 (cj (rf (0:Int)) (cj (rf (1:Nat)) (cj (rr 1 8 fun i j=>rowL enC [En.mk (1:Int) (2:Int) (3:Int) (-1:Int) (4:Int) true false true] i j) (cj (rf (0:Nat)) (cj (rr 0 1 fun i j=>aI (List.getD [] i (0:Int))) (cj (rf (0:Int)) (cj h3 (cj (rf (18:Nat)) (cj (rr 18 1 fun i j=>aI (List.getD [(0:Int),(0:Int),(0:Int),(0:Int),(0:Int),(0:Int),(0:Int),(1:Int),(1:Int),(2:Int),(3:Int),(-1:Int),(4:Int),(1:Int),(0:Int),(1:Int),(0:Int),(0:Int)] i (0:Int))) (cj (rf (18:Nat)) (cj (sC112 n hq) (cj h4 (cj awakeC13 (cj (rf true) trivial))))))))))))))))))))))))) (by kernel_rfl)
theorem none8 (n:Int) (hq:Int.tmod (bits .and .i64 n 255) 12=8) (h1:PureC Try.prog 9 [lR nl8] (bR nb8) []) (h2:PureC Try.prog 8 [bR nb8] (.tup [.agg (cfA Cf0), .bool false]) []) (h3:qC111):Vc (vcFn Try.prog false 3 [.int .i64 n] [.iy 8, .cl [lR nl8] (bR nb8) [], .cl [bR nb8] (.tup [.agg (cfA Cf0), .bool false]) [], .bd true,oC112,oC110] [] (.bool true) []):=vc_by (cj (pv (((12:Nat):Int)≠0)) (cj (pv (Int.tmod (Go.bits Go.BinOp.and IntKind.i64 n (255:Int)) ((12:Nat):Int)=((8:Nat):Int))) (cj (bi ((8:Nat):Int) ((12:Nat):Int)) (cj (pv ((8:Nat)<12)) (cj (rf (18:Nat)) (cj (show ∀ (i:Nat),i<18→ ∀ (j:Nat),j<1→List.getD [aI (0:Int),aI (0:Int),aI (0:Int),aI (0:Int),aI (0:Int),aI (0:Int),aI (0:Int),aI (1:Int),aI (1:Int),aI (2:Int),aI (3:Int),aI (-1:Int),aI (4:Int),aI (2:Int),aI (0:Int),aI (1:Int),aI (0:Int),aI (0:Int)] ((i+0)*1+j) AV.junk=aI (List.getD [(0:Int),(0:Int),(0:Int),(0:Int),(0:Int),(0:Int),(0:Int),(1:Int),(1:Int),(2:Int),(3:Int),(-1:Int),(4:Int),(2:Int),(0:Int),(1:Int),(0:Int),(0:Int)] i (0:Int)) from (fun i hi j hj=>by obtain rfl:j=0:=(by omega);exact (Nat.lt_or_ge i 9).elim (fun h=>match i,h with |0,_=>rfl |1,_=>rfl |2,_=>rfl |3,_=>rfl |4,_=>rfl |5,_=>rfl |6,_=>rfl |7,_=>rfl |8,_=>rfl) (fun h=>by obtain ⟨q,rfl⟩: ∃ q,i=q+9:=⟨i-9,by omega⟩;exact (match q,(show q<9 by omega) with |0,_=>rfl |1,_=>rfl |2,_=>rfl |3,_=>rfl |4,_=>rfl |5,_=>rfl |6,_=>rfl |7,_=>rfl |8,_=>rfl)))) (cj h1 (cj (rf (18:Nat)) (cj (rr 18 1 fun i j=>AV.int IntKind.u8 (List.getD [(1:Int),(1:Int),(1:Int),(1:Int),(1:Int),(1:Int),(1:Int),(2:Int),(2:Int),(3:Int),(4:Int),(0:Int),(5:Int),(3:Int),(1:Int),(2:Int),(1:Int),(1:Int)] i (0:Int))) (cj h2 (zC110 (zC112 (zC111 (cj h3 (cj awakeC13 (cj (rf true) trivial)))))))))))))))) (by kernel_rfl)
theorem none9 (n:Int) (hq:Int.tmod (bits .and .i64 n 255) 12=9) (h1:PureC Try.prog 9 [lR nl9] (bR nb9) []) (h2:PureC Try.prog 8 [bR nb9] (.tup [.agg (cfA Cf0), .bool false]) []) (h3:qC111):Vc (vcFn Try.prog false 3 [.int .i64 n] [.iy 9, .cl [lR nl9] (bR nb9) [], .cl [bR nb9] (.tup [.agg (cfA Cf0), .bool false]) [], .bd true,oC112,oC110] [] (.bool true) []):=vc_by (cj (pv (((12:Nat):Int)≠0)) (cj (pv (Int.tmod (Go.bits Go.BinOp.and IntKind.i64 n (255:Int)) ((12:Nat):Int)=((9:Nat):Int))) (cj (bi ((9:Nat):Int) ((12:Nat):Int)) (cj (pv ((9:Nat)<12)) (cj (rf (18:Nat)) (cj (show ∀ (i:Nat),i<18→ ∀ (j:Nat),j<1→List.getD [aI (0:Int),aI (0:Int),aI (0:Int),aI (0:Int),aI (0:Int),aI (0:Int),aI (0:Int),aI (1:Int),aI (1:Int),aI (2:Int),aI (3:Int),aI (-1:Int),aI (4:Int),aI (1:Int),aI (0:Int),aI (-1:Int),aI (0:Int),aI (0:Int)] ((i+0)*1+j) AV.junk=aI (List.getD [(0:Int),(0:Int),(0:Int),(0:Int),(0:Int),(0:Int),(0:Int),(1:Int),(1:Int),(2:Int),(3:Int),(-1:Int),(4:Int),(1:Int),(0:Int),(-1:Int),(0:Int),(0:Int)] i (0:Int)) from (fun i hi j hj=>by obtain rfl:j=0:=(by omega);exact (Nat.lt_or_ge i 9).elim (fun h=>match i,h with |0,_=>rfl |1,_=>rfl |2,_=>rfl |3,_=>rfl |4,_=>rfl |5,_=>rfl |6,_=>rfl |7,_=>rfl |8,_=>rfl) (fun h=>by obtain ⟨q,rfl⟩: ∃ q,i=q+9:=⟨i-9,by omega⟩;exact (match q,(show q<9 by omega) with |0,_=>rfl |1,_=>rfl |2,_=>rfl |3,_=>rfl |4,_=>rfl |5,_=>rfl |6,_=>rfl |7,_=>rfl |8,_=>rfl)))) (cj h1 (cj (rf (18:Nat)) (cj (rr 18 1 fun i j=>AV.int IntKind.u8 (List.getD [(1:Int),(1:Int),(1:Int),(1:Int),(1:Int),(1:Int),(1:Int),(2:Int),(2:Int),(3:Int),(4:Int),(0:Int),(5:Int),(2:Int),(1:Int),(0:Int),(1:Int),(1:Int)] i (0:Int))) (cj h2 (zC110 (zC112 (zC111 (cj h3 (cj awakeC13 (cj (rf true) trivial)))))))))))))))) (by kernel_rfl)
theorem sC113: ∀ (i:Nat),i<12→ ∀ (j:Nat),j<1→List.getD [aI (0:Int),aI (0:Int),aI (0:Int),aI (0:Int),aI (0:Int),aI (0:Int),aI (0:Int),aI (0:Int),aI (2:Int),aI (7:Int),aI (8:Int),aI (2:Int)] ((i+0)*1+j) AV.junk=aI (List.getD [(0:Int),(0:Int),(0:Int),(0:Int),(0:Int),(0:Int),(0:Int),(0:Int),(2:Int),(7:Int),(8:Int),(2:Int)] i (0:Int)):=(fun i hi j hj=>match i,hi,j,hj with |0,_,0,_=>rfl |1,_,0,_=>rfl |2,_,0,_=>rfl |3,_,0,_=>rfl |4,_,0,_=>rfl |5,_,0,_=>rfl |6,_,0,_=>rfl |7,_,0,_=>rfl |8,_,0,_=>rfl |9,_,0,_=>rfl |10,_,0,_=>rfl |11,_,0,_=>rfl)
theorem none10 (n:Int) (hq:Int.tmod (bits .and .i64 n 255) 12=10) (h1:PureC Try.prog 9 [lR nl10] (bR nb10) []) (h2:PureC Try.prog 8 [bR nb10] (.tup [.agg (cfA nc10), .bool true]) []) (h3:PureC Try.prog 12 [.agg (cfA nc10)] (lR nl10) []) (h4:PureC Try.prog 11 [lR nl10,lR nl10] (.bool true) []):Vc (vcFn Try.prog false 3 [.int .i64 n] [.iy 10, .cl [lR nl10] (bR nb10) [], .cl [bR nb10] (.tup [.agg (cfA nc10), .bool true]) [], .bd true, .cl [.agg (cfA nc10)] (lR nl10) [], .cl [lR nl10,lR nl10] (.bool true) [],oC110] [] (.bool true) []):=vc_by (cj (pv (((12:Nat):Int)≠0)) (cj (pv (Int.tmod (Go.bits Go.BinOp.and IntKind.i64 n (255:Int)) ((12:Nat):Int)=((10:Nat):Int))) (cj (bi ((10:Nat):Int) ((12:Nat):Int)) (cj (pv ((10:Nat)<12)) (cj (rf (12:Nat)) (cj (sC113) (cj h1 (cj (rf (12:Nat)) (cj (rr 12 1 fun i j=>AV.int IntKind.u8 (List.getD [(1:Int),(1:Int),(1:Int),(1:Int),(1:Int),(1:Int),(1:Int),(1:Int),(3:Int),(8:Int),(9:Int),(3:Int)] i (0:Int))) (cj h2 (zC110 (cj (rf (0:Int)) (cj (rf (0:Nat)) (cj (rr 0 8 fun i j=>rowL enC [] i j) (cj (rf (2:Nat)) (cj (rr 2 1 fun i j=>aI (List.getD [(7:Int),(8:Int)] i (0:Int))) (cj (rf (2:Int)) (cj h3 (cj (rf (12:Nat)) (cj (rr 12 1 fun i j=>aI (List.getD [(0:Int),(0:Int),(0:Int),(0:Int),(0:Int),(0:Int),(0:Int),(0:Int),(2:Int),(7:Int),(8:Int),(2:Int)] i (0:Int))) (cj (rf (12:Nat)) (cj (sC113) (cj h4 (cj awakeC13 (cj (rf true) trivial))))))))))))))))))))))))) (by kernel_rfl)
theorem none11 (n:Int) (hq:Int.tmod (bits .and .i64 n 255) 12=11) (h1:PureC Try.prog 9 [lR nl11] (bR nb11) []) (h2:PureC Try.prog 8 [bR nb11] (.tup [.agg (cfA Cf0), .bool false]) []) (h3:qC111):Vc (vcFn Try.prog false 3 [.int .i64 n] [.iy 11, .cl [lR nl11] (bR nb11) [], .cl [bR nb11] (.tup [.agg (cfA Cf0), .bool false]) [], .bd true,oC112,oC110] [] (.bool true) []):=vc_by (cj (pv (((12:Nat):Int)≠0)) (cj (pv (Int.tmod (Go.bits Go.BinOp.and IntKind.i64 n (255:Int)) ((12:Nat):Int)=((11:Nat):Int))) (cj (bi ((11:Nat):Int) ((12:Nat):Int)) (cj (pv ((11:Nat)<12)) (cj (rf (11:Nat)) (cj (show ∀ (i:Nat),i<11→ ∀ (j:Nat),j<1→List.getD [aI (0:Int),aI (0:Int),aI (0:Int),aI (0:Int),aI (0:Int),aI (0:Int),aI (0:Int),aI (0:Int),aI (2:Int),aI (7:Int),aI (2:Int)] ((i+0)*1+j) AV.junk=aI (List.getD [(0:Int),(0:Int),(0:Int),(0:Int),(0:Int),(0:Int),(0:Int),(0:Int),(2:Int),(7:Int),(2:Int)] i (0:Int)) from (fun i hi j hj=>match i,hi,j,hj with |0,_,0,_=>rfl |1,_,0,_=>rfl |2,_,0,_=>rfl |3,_,0,_=>rfl |4,_,0,_=>rfl |5,_,0,_=>rfl |6,_,0,_=>rfl |7,_,0,_=>rfl |8,_,0,_=>rfl |9,_,0,_=>rfl |10,_,0,_=>rfl)) (cj h1 (cj (rf (11:Nat)) (cj (rr 11 1 fun i j=>AV.int IntKind.u8 (List.getD [(1:Int),(1:Int),(1:Int),(1:Int),(1:Int),(1:Int),(1:Int),(1:Int),(3:Int),(8:Int),(3:Int)] i (0:Int))) (cj h2 (zC110 (zC112 (zC111 (cj h3 (cj awakeC13 (cj (rf true) trivial)))))))))))))))) (by kernel_rfl)
theorem putF (l b:List Int) (hl:l.length≤1000000) (hi:Cd.isI l) (e:Cd.putL l=b):PureC Try.prog 9 [lR l] (bR b) []:=by
 subst e
 exact (rputC (.row l) hl hi).frozen
theorem ciF (c:Cf) (l:List Int) (hb:c.b.length<1000000) (hm:c.s.m.length<1000000) (hst:c.s.st.length<1000000) (hr:c.r.length<1000000) (e:ciL c=l):PureC Try.prog 12 [.agg (cfA c)] (lR l) []:=by
 subst e
 exact ciC c hb hm hst hr
theorem siF (l:List Int) (hl:l.length<1000000000):PureC Try.prog 11 [lR l,lR l] (.bool true) []:=by
 have h:=nsiC l l hl
 rw [decide_eq_true rfl] at h
 exact h
theorem sm0:PureC Try.prog 10 [.agg (cfA Cf0), .agg (cfA Cf0)] (.bool true) []:=by
 have h:=rsameC Cf0 Cf0 (by decide) (by decide) (by decide) (by decide) (by decide) (by decide) (by decide) (by decide)
 rw [decide_eq_true rfl] at h
 exact h
theorem tm12 (n:Int):0≤Int.tmod (bits .and .i64 n 255) 12∧Int.tmod (bits .and .i64 n 255) 12<12:=by
 have h2:bits .and .i64 n 255=n%256:=Wd.bits_mask n 8 (by omega)
 have h0:0≤bits .and .i64 n 255:=by omega
 exact tmod_bd h0 (by omega)
theorem confNoneC (n:Int):PureC Try.prog 3 [.int .i64 n] (.bool true) []:=by
 have hb:=tm12 n
 have hc:Int.tmod (bits .and .i64 n 255) 12=0∨Int.tmod (bits .and .i64 n 255) 12=1∨Int.tmod (bits .and .i64 n 255) 12=2∨Int.tmod (bits .and .i64 n 255) 12=3∨Int.tmod (bits .and .i64 n 255) 12=4∨Int.tmod (bits .and .i64 n 255) 12=5∨Int.tmod (bits .and .i64 n 255) 12=6∨Int.tmod (bits .and .i64 n 255) 12=7∨Int.tmod (bits .and .i64 n 255) 12=8∨Int.tmod (bits .and .i64 n 255) 12=9∨Int.tmod (bits .and .i64 n 255) 12=10∨Int.tmod (bits .and .i64 n 255) 12=11:=by omega
 rcases hc with h |h |h |h |h |h |h |h |h |h |h |h
 ·exact PureC.vc (none0 n h (putF nl0 nb0 (by decide) (by unfold Cd.isI;decide) (by kernel_rfl)) (parF nb0 nc0 (by unfold Cd.isB;decide) (by decide) (by kernel_rfl)) (ciF nc0 nl0 (by decide) (by decide) (by decide) (by decide) (by kernel_rfl)) (siF nl0 (by decide)))
 ·exact PureC.vc (none1 n h (putF nl1 nb1 (by decide) (by unfold Cd.isI;decide) (by kernel_rfl)) (parN nb1 (by unfold Cd.isB;decide) (by decide) (by kernel_rfl)) sm0)
 ·exact PureC.vc (none2 n h (putF nl2 nb2 (by decide) (by unfold Cd.isI;decide) (by kernel_rfl)) (parN nb2 (by unfold Cd.isB;decide) (by decide) (by kernel_rfl)) sm0)
 ·exact PureC.vc (none3 n h (putF nl3 nb3 (by decide) (by unfold Cd.isI;decide) (by kernel_rfl)) (parF nb3 nc3 (by unfold Cd.isB;decide) (by decide) (by kernel_rfl)) (ciF nc3 nl3 (by decide) (by decide) (by decide) (by decide) (by kernel_rfl)) (siF nl3 (by decide)))
 ·exact PureC.vc (none4 n h (putF nl4 nb4 (by decide) (by unfold Cd.isI;decide) (by kernel_rfl)) (parN nb4 (by unfold Cd.isB;decide) (by decide) (by kernel_rfl)) sm0)
 ·exact PureC.vc (none5 n h (putF nl5 nb5 (by decide) (by unfold Cd.isI;decide) (by kernel_rfl)) (parN nb5 (by unfold Cd.isB;decide) (by decide) (by kernel_rfl)) sm0)
 ·exact PureC.vc (none6 n h (putF nl6 nb6 (by decide) (by unfold Cd.isI;decide) (by kernel_rfl)) (parN nb6 (by unfold Cd.isB;decide) (by decide) (by kernel_rfl)) sm0)
 ·exact PureC.vc (none7 n h (putF nl7 nb7 (by decide) (by unfold Cd.isI;decide) (by kernel_rfl)) (parF nb7 nc7 (by unfold Cd.isB;decide) (by decide) (by kernel_rfl)) (ciF nc7 nl7 (by decide) (by decide) (by decide) (by decide) (by kernel_rfl)) (siF nl7 (by decide)))
 ·exact PureC.vc (none8 n h (putF nl8 nb8 (by decide) (by unfold Cd.isI;decide) (by kernel_rfl)) (parN nb8 (by unfold Cd.isB;decide) (by decide) (by kernel_rfl)) sm0)
 ·exact PureC.vc (none9 n h (putF nl9 nb9 (by decide) (by unfold Cd.isI;decide) (by kernel_rfl)) (parN nb9 (by unfold Cd.isB;decide) (by decide) (by kernel_rfl)) sm0)
 ·exact PureC.vc (none10 n h (putF nl10 nb10 (by decide) (by unfold Cd.isI;decide) (by kernel_rfl)) (parF nb10 nc10 (by unfold Cd.isB;decide) (by decide) (by kernel_rfl)) (ciF nc10 nl10 (by decide) (by decide) (by decide) (by decide) (by kernel_rfl)) (siF nl10 (by decide)))
 ·exact PureC.vc (none11 n h (putF nl11 nb11 (by decide) (by unfold Cd.isI;decide) (by kernel_rfl)) (parN nb11 (by unfold Cd.isB;decide) (by decide) (by kernel_rfl)) sm0)
theorem walk_ConfNone (a0:Int) (W:World):Calls Try.prog 3 #[.int .i64 a0] W (RetB (.bool true) W):=
 (confNoneC a0).lawB (R:=fun g=>g<W.heap.size) (fun _ h=>h) rfl (fun j x v hx hv=>match j,hx,hv with
  |0,rfl,rfl=> .int _ _)
end
end Go.Proofs.Ytfjapapiappacaa.Px
