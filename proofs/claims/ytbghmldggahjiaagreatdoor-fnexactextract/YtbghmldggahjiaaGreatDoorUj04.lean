/-.-/
import Derived.Test.YtbghmldggahjiaaGreatDoorUj03
import Derived.Laws.BytesString
set_option linter.unusedVariables false
set_option maxHeartbeats 6400000
set_option maxRecDepth 100000
namespace Go.Proofs.YtbghmldggahjiaaGreatDoor
open Go.RowKit
theorem frombits (n:Int)(w:World):(callFunc 200 #[.int .u64 n]).run Tryz.prog w = .ok (.value (yj n.toNat)) w:=by
 rw[run_callFunc_extern (e:=Extern.MathFloatBits.float64frombits) Tryz.func200 (by kernel_rfl) (by kernel_rfl) (by kernel_rfl) (by kernel_rfl)];rfl
def shl8 (u:Nat)(c:Int):Nat:=u*256+c.toNat
def dS (l:List Int)(k i:Nat):Nat:=((l.drop k).take i).foldl shl8 0
theorem bits8_step (l:List Int)(k i:Nat)(h:k+i<l.length):dS l k (i+1)=shl8 (dS l k i) (l.getD (k+i) 0):=by
 unfold dS;rw[List.take_succ_eq_append_getElem (by rw[List.length_drop];omega),List.foldl_append];simp[h]
theorem bits8_lt (l:List Int)(k:Nat)(A:Bts l):∀i,dS l k i<256 ^ i
 | 0=>by simp[dS]
 | i+1=>by
  have ih:=bits8_lt l k A i
  by_cases h:k+i<l.length
  ·rw[bits8_step l k i h,Nat.pow_succ];have:=eQ A (k+i);unfold shl8;omega
  ·have e:dS l k (i+1)=dS l k i:=by
    unfold dS;rw[yZ (by rw[List.length_drop];omega),yZ (by rw[List.length_drop];omega)]
   rw[e,Nat.pow_succ];omega
theorem or8 (u:Nat)(c:Int)(hu:u<72057594037927936)(h0:0<=c)(D:c<=255):bits .or .u64 (IntKind.u64.wrap ((u:Int)*256)) c=(shl8 u c:Int):=by
 have e2:(u:Int)*256=((u*256:Nat):Int):=by omega
 obtain⟨d,rfl⟩:=Int.eq_ofNat_of_zero_le h0;rw[e2,IntKind.wrap_u64,Int.emod_eq_of_lt (by omega) (by omega),u64_or_nat _ _ (by omega) (by omega)];rw[nat_join 8 _ _ (by omega) (by omega)];unfold shl8;rw[Int.toNat_natCast]
def ey (l:List Int)(k:Nat):Option (Nat × Nat):=
 if l.length<k+8 then none else if nanB (dS l k 8)=true/\dS l k 8≠9221120237041090560 then none else some (dS l k 8,k+8)
theorem floatA_end {l:List Int}{k:Nat}(h:l.length<k+8):ey l k=none:=if_pos h
theorem floatA_bad {l:List Int}{k:Nat}(h:¬ l.length<k+8)(A:nanB (dS l k 8)=true/\dS l k 8≠9221120237041090560):ey l k=none:=by
 unfold ey;rw[if_neg h,if_pos A]
theorem floatA_yes {l:List Int}{k:Nat}(h:¬ l.length<k+8)(A:¬ (nanB (dS l k 8)=true/\dS l k 8≠9221120237041090560)):ey l k=some (dS l k 8,k+8):=by
 unfold ey;rw[if_neg h,if_neg A]
def FltEnd (B:Nat)(v:Value)(w:World)(r:Option (Nat × Nat))(e:Ending)(w':World):Prop:=
 w.grownBy w' (some B)/\(∀x next,r=some (x,next)->e = .returned (yj x)/\Rdr B w' v next)/\(r=none->∃p,e = .panicked (eE 3 p))
theorem fltEnd_fail {B:Nat}{v:Value}{w w':World}{r:Option (Nat × Nat)}(M:w.grownBy w' (some B))(hr:r=none)(p:Int):FltEnd B v w r (.panicked (eE 3 p)) w':=
 ⟨M,(fun _ _ h=>by rw[hr] at h;cases h),fun _=>⟨p,rfl⟩⟩
theorem fltEnd_done {B:Nat}{v:Value}{w w':World}{r:Option (Nat × Nat)}{u n:Nat}(M:w.grownBy w' (some B))(hr:r=some (u,n))(h:Rdr B w' v n):FltEnd B v w r (.returned (yj u)) w':=
 ⟨M,(fun a b h'=>by rw[hr] at h';cases h';exact⟨rfl,h⟩),(fun h'=>by rw[hr] at h';cases h')⟩
theorem float_some (B:Nat)(w0:World)(b off cap k:Nat)(l:List Int)(hr:Rdr B w0 (.slice (some ⟨b,off,none⟩) l.length cap) k)(h8:k+8<=l.length)(hl:l.length<=65536)(xC:l.length<=cap)(dj:b≠B)
  (hc:∀i,i<l.length->w0.cell? ⟨b,off+i,none⟩=some (.int .u8 (l.getD i 0))) (A:Bts l) :
  Calls Tryz.prog 213 #[.pointer (some ⟨B,0,none⟩)] w0 fun e w'=>FltEnd B (.slice (some ⟨b,off,none⟩) l.length cap) w0 (ey l k) e w':=by
 have HR:=Q hr;have HC:=Q hc;have HB:=Q A;have cy:=frombits;have kB:=Q (floatA_bad (l:=l) (k:=k) (by omega));have vR:=Q (floatA_yes (l:=l) (k:=k) (by omega));clear hr hc A;go_enter Tryz.func213,Tryz.ntmps213;go_wp2_with fail;refine(take_ok B 8 k b off l.length cap _ (Z HR) (by omega) (by omega) xC (by omega)).mono ?_;rintro e w1 ⟨rfl,q,rfl⟩;have HRw:=Q (((Z HR).step ((k+8:Nat):Int)).drewN q);have HGw:=Q (zC (eF w0 ⟨B,1,none⟩ (H ((k+8:Nat):Int))) (dZ _ q _));go_wp2_with fail
 go_loop [3,10] (fun uv iv=>∃i:Nat,i<=8/\iv=H i/\uv = .int .u64 (dS l k i)) (fun _ iv=>8-(intOf iv).toNat)
 case atStart=>exact⟨0,by omega,rfl,rfl⟩
 case round =>
  obtain⟨i,hi,rfl,rfl⟩:=hrel
  by_cases xH:i<8
  ·have hcx:=Z HC (k+i) (by omega);rw[<- Nat.add_assoc] at hcx;have jm:=eQ (Z HB) (k+i);have hlt8:=bits8_lt l k (Z HB) i;have hp:256 ^ i<=72057594037927936:=yN (Nat.pow_le_pow_right (by omega) (show i<=7 by omega)) (by decide);have hor:=or8 (dS l k i) (l.getD (k+i) 0) (by omega) jm.1 jm.2;have HS:=Q (bits8_step l k i (by omega));rw[<- Z HS] at hor;have uq:(i:Int)<8:=by omega
   generalize l.getD (k+i) 0=c at *;generalize hu:dS l k i=u at *;generalize hu':dS l k (i+1)=u' at *;have HU':=Q hu';clear hlt8 hp hu hu';obtain⟨jn,qV⟩:=jm;go_wp2_with fail
   go_round
   case rel=>exact⟨i+1,by omega,by go_num,by rw[Z HU']⟩
   case measure=>simp[intOf];omega
  ·obtain rfl:i=8:=by omega
   generalize dS l k 8=u at *;cases hn:nanB u with
   | true =>
    by_cases he:u=9221120237041090560
    ·have HY:=Q (Z vR (by intro h;exact h.2 he));have he':((u:Int) != 9221120237041090560)=false:=by rw[he];rfl
     clear he;go_wp2_with (go_at_call 220;refine(iY _ _).mono ?_;rintro e w' ⟨rfl,rfl⟩);go_ret;exact fltEnd_done (Z HGw) (Z HY) (Z HRw)
    ·have HY:=Q (Z kB ⟨hn,he⟩);have he':((u:Int) != 9221120237041090560)=true:=by rw[bne_iff_ne];omega
     clear he;go_wp2_with (go_at_call 220;refine(iY _ _).mono ?_;rintro e w' ⟨rfl,rfl⟩);refine(fw B 3 _ _ _ (Z HRw)).mono ?_;rintro e w2 ⟨rfl,rfl⟩;go_wp2_with fail;exact⟨rfl,fltEnd_fail (Z HGw) (Z HY) _⟩
   | false =>
    have HY:=Q (Z vR (by intro h;rw[hn] at h;cases h.1));go_wp2_with (go_at_call 220;refine(iY _ _).mono ?_;rintro e w' ⟨rfl,rfl⟩);go_ret;exact fltEnd_done (Z HGw) (Z HY) (Z HRw)
theorem float_end (B:Nat)(w0:World)(a:Option Addr)(cap k:Nat)(l:List Int)(hr:Rdr B w0 (.slice a l.length cap) k)(X:k<=l.length)(h8:l.length<k+8)(hl:l.length<=65536) :
  Calls Tryz.prog 213 #[.pointer (some ⟨B,0,none⟩)] w0 fun e w'=>FltEnd B (.slice a l.length cap) w0 (ey l k) e w':=by
 have HR:=Q hr;have HY:=Q (floatA_end h8);clear hr;go_enter Tryz.func213,Tryz.ntmps213;go_wp2_with fail;refine(iH B 8 k a l.length cap _ (Z HR) (by omega) (by omega) (by omega) (by omega) (by omega)).mono ?_;rintro e w1 ⟨rfl,q,rfl⟩;go_wp2_with fail;exact⟨rfl,fltEnd_fail (dZ _ _ _) (Z HY) _⟩
theorem float_any (B:Nat)(v:Value)(l:List Int)(k:Nat)(w w0:World)(xU:Rd w v l)(xC:dR v)(jA:w.heap.size<=B)(xk:yn w w0)(hr:Rdr B w0 v k)(X:k<=l.length)(hl:l.length<=65536)(A:Bts l) :
  Calls Tryz.prog 213 #[.pointer (some ⟨B,0,none⟩)] w0 fun e w'=>FltEnd B v w0 (ey l k) e w':=by
 obtain⟨a,cap,rfl,_,hc⟩:=xU
 by_cases h8:l.length<k+8
 ·exact float_end B w0 a cap k l hr X h8 hl
 ·obtain⟨b,off,rfl,xp⟩:=hc (by intro h;rw[h] at h8;simp at h8);have oP:b<w.heap.size:=yK w _ (xp 0 (by omega));exact float_some B w0 b off cap k l hr (by omega) hl (xC _ _ _ rfl) (by omega) (fun i hi=>(xk.cell (p:=⟨b,off+i,none⟩) oP).trans (xp i hi)) A
def strB (ns:List Int):ByteArray:=ns.foldl (fun r n=>r.push (UInt8.ofNat n.toNat)) ByteArray.empty
theorem load_row {P:Program}(W:World)(b off:Nat)(ns:List Int)(h:∀i,i<ns.length->W.cell? (U b (off+i))=some (.int .u8 (ns.getD i 0))) :
  ∀(m i:Nat) (acc:Array Value),i+m=ns.length->acc=((ns.take i).map (Value.int .u8)).toArray->(loadCellsFrom (U b off) i m acc).run P W = .ok (ns.map (Value.int .u8)).toArray W:=by
 intro m
 induction m with
 | zero =>
  intro i acc hi ha;subst ha;rw[yZ (by omega)];rfl
 | succ m ih =>
  intro i acc hi ha;have e:((U b off):Addr).add i=(U b (off+i)):=by unfold Addr.add;split <;> simp_all
  have hc:=h i (by omega);simp only[loadCellsFrom,Sem.run_bind,e];have hl:(load (U b (off+i))).run P W = .ok (.int .u8 (ns.getD i 0)) W:=by simp[hc]
  rw[hl];simp only[Result.andThen];refine ih (i+1) _ (by omega) ?_;rw[ha,take_get ns i (by omega),List.map_append];simp
theorem gH (v:Value)(ns:List Int)(W:World)(hr:Rd W v ns) :
  (convert 22 9 v).run Tryz.prog W = .ok (yk (strB ns)) W:=by
 obtain⟨a,cap,rfl,_,hc⟩:=hr;rw[run_convert_bytes_string W _ _ 5 a _ _ Tryz.underlying22 Tryz.underlying5 Tryz.underlying9]
 by_cases xy:ns = []
 ·subst xy;cases a with
  | none=>rfl
  | some ad=>rfl
 ·obtain⟨b,off,rfl,xp⟩:=hc xy;exact run_bytesToString W (U b off) ns.length cap ns (load_row W b off ns xp ns.length 0 #[] (by omega) rfl)
theorem take_zero (B:Nat)(k:Nat)(a:Option Addr)(len cap:Nat)(w:World)(hr:Rdr B w (.slice a len cap) k)(D:k<=len)(hl:len<=1073741824)(xC:len<=cap) :
  Calls Tryz.prog 38 #[.pointer (some ⟨B,0,none⟩),H 0] w fun e w'=>(∃a' c',e = .returned (.slice a' 0 c'))/\∃q,w'=(w.setCell ⟨B,1,none⟩ (H k)).drewN q:=by
 obtain⟨c1,c2,c3⟩:=hr;have h1':(k:Int)<=len:=by omega
 have h2':¬ ((len:Int)-k<0):=by omega
 have h3':(k:Int)<=cap:=by omega
 go_enter Tryz.func38,Tryz.ntmps38;go_wp2_with fail;go_quiet (fail);go_wp2_with fail;go_quiet (fail);go_wp2_with fail
 all_goals go_ret
 all_goals exact⟨⟨_,_,by simp;exact⟨rfl,rfl⟩⟩,_,rfl⟩
def ed (l:List Int)(k:Nat):Option (ByteArray × Nat):=
 match getU l k with
 | none=>none
 | some (u,n)=>if unz u<0\/13<unz u\/(l.length:Int)-n<unz u then none else some (strB ((l.drop n).take (unz u).toNat),n+(unz u).toNat)
theorem textA_no {l:List Int}{k:Nat}(h:getU l k=none):ed l k=none:=by unfold ed;rw[h]
theorem textA_bad {l:List Int}{k u n:Nat}(h:getU l k=some (u,n))(A:unz u<0\/13<unz u\/(l.length:Int)-n<unz u):ed l k=none:=by
 unfold ed;rw[h];simp only;rw[if_pos A]
theorem textA_yes {l:List Int}{k u n:Nat}(h:getU l k=some (u,n))(A:¬ (unz u<0\/13<unz u\/(l.length:Int)-n<unz u)) :
  ed l k=some (strB ((l.drop n).take (unz u).toNat),n+(unz u).toNat):=by
 unfold ed;rw[h];simp only;rw[if_neg A]
theorem gj:∀(f i u:Nat) (l:List Int) (k v n:Nat),scan l k f i u=some (v,n)->n<=l.length/\k<=n
 | 0,_,_,_,_,_,_,h=>by simp[scan] at h
 | f+1,i,u,l,k,v,n,h=>by
  rw[scan] at h;split at h
  ·cases h
  ·split at h
   ·cases h
   ·split at h
    ·simp only[Option.some.injEq,Prod.mk.injEq] at h;omega
    ·exact gj f (i+1) _ l k v n h
def TxtEnd (B:Nat)(v:Value)(w:World)(r:Option (ByteArray × Nat))(e:Ending)(w':World):Prop:=
 w.grownBy w' (some B)/\(∀s next,r=some (s,next)->e = .returned (yk s)/\Rdr B w' v next)/\(r=none->∃p,e = .panicked (eE 3 p))
theorem lJ {B:Nat}{v:Value}{w w':World}{r:Option (ByteArray × Nat)}(M:w.grownBy w' (some B))(hr:r=none)(p:Int):TxtEnd B v w r (.panicked (eE 3 p)) w':=
 ⟨M,(fun _ _ h=>by rw[hr] at h;cases h),fun _=>⟨p,rfl⟩⟩
theorem piece_rd {w:World}{b off cap n c:Nat}{l:List Int}(h:∀i,i<l.length->w.cell? ⟨b,off+i,none⟩=some (.int .u8 (l.getD i 0)))(hn:n+c<=l.length)(hl:l.length<=65536) :
  Rd w (.slice (some ⟨b,off+n,none⟩) c cap) ((l.drop n).take c):=by
 have xD:((l.drop n).take c).length=c:=by rw[List.length_take,List.length_drop];omega
 refine⟨_,cap,by rw[xD],by omega,fun _=>⟨b,off+n,rfl,fun i hi=>?_⟩⟩;rw[xD] at hi;have:=h (n+i) (by omega);rw[Nat.add_assoc,this];have e:((l.drop n).take c).getD i 0=l.getD (n+i) 0:=by simp[hi,List.getElem?_drop]
 rw[e]
theorem txtEnd_done {B:Nat}{v:Value}{w w':World}{r:Option (ByteArray × Nat)}{s:ByteArray}{n:Nat}(M:w.grownBy w' (some B))(hr:r=some (s,n))(h:Rdr B w' v n):TxtEnd B v w r (.returned (yk s)) w':=
 ⟨M,(fun a b h'=>by rw[hr] at h';cases h';exact⟨rfl,h⟩),(fun h'=>by rw[hr] at h';cases h')⟩
theorem text_any (B:Nat)(v:Value)(l:List Int)(k:Nat)(w w0:World)(xU:Rd w v l)(xC:dR v)(jA:w.heap.size<=B)(xk:yn w w0)(hr:Rdr B w0 v k)(X:k<=l.length)(hl:l.length<=65536)(A:Bts l) :
  Calls Tryz.prog 215 #[.pointer (some ⟨B,0,none⟩)] w0 fun e w'=>TxtEnd B v w0 (ed l k) e w':=by
 have HN:=Q (number_any B v l k w w0 xU xC jA xk hr X hl A);have HRd:=Q xU;have HBl:=Q xk;have hv:=eb xU;have HCap:=Q xC;clear xU xk hr xC;go_enter Tryz.func215,Tryz.ntmps215;go_wp2_with fail;refine(Z HN).mono ?_;rintro e w1 hN;cases M:getU l k with
 | none =>
  obtain⟨p,rfl⟩:=hN.2.2 M;have HG:=Q hN.1;have HT:=Q (textA_no M);clear hN M;go_wp2_with fail;exact⟨rfl,lJ (Z HG) (Z HT) _⟩
 | some x =>
  obtain⟨u,n⟩:=x;obtain⟨rfl,dH⟩:=hN.2.1 u n M;have HG:=Q hN.1;have cS:=Q dH;have uB:=gj 10 0 0 l k u n M;have kB:=Q (fun h=>textA_bad M h);have vR:=Q (fun h=>textA_yes M h);clear hN dH M;generalize unz u=z at *;obtain⟨cD,hn2⟩:=uB
  by_cases ut:z<0\/13<z
  ·have HT:=Q (Z kB (by omega));rcases(show z<0\/(0<=z/\13<z) by omega) with D|⟨D,E⟩
   all_goals
    clear ut;go_wp2_with fail;refine(fw B 3 _ _ _ (Z cS)).mono ?_;rintro e w2 ⟨rfl,rfl⟩;go_wp2_with fail;exact⟨rfl,lJ (Z HG) (Z HT) _⟩
  ·obtain⟨c,rfl⟩:=Int.eq_ofNat_of_zero_le (show 0<=z by omega);have hc13:(c:Int)<=13:=by omega
   clear ut;obtain⟨a,cap,kz⟩:=hv
   by_cases hlong:(l.length:Int)-n<c
   ·have HT:=Q (Z kB (by omega));rw[kz] at cS;go_wp2_with fail;refine(iH B c n a l.length cap _ (Z cS) (by omega) (by omega) (by omega) hlong (by omega)).mono ?_;rintro e w2 ⟨rfl,q,rfl⟩;go_wp2_with fail;exact⟨rfl,lJ (zC (Z HG) (dZ _ _ _)) (Z HT) _⟩
   ·have HY:=Q (Z vR (by omega));rw[Int.toNat_natCast] at HY;rw[kz] at cS
    by_cases jn:c=0
    ·subst jn;go_wp2_with fail;refine(take_zero B n a l.length cap _ (Z cS) (by omega) (by omega) ((Z HCap) _ _ _ kz)).mono ?_;rintro e w2 ⟨⟨a',c',rfl⟩,q,rfl⟩;have hcv:=fun W=>gH (.slice a' 0 c') [] W ⟨a',c',rfl,by simp,fun h=>absurd rfl h⟩;have HRw:=Q (((Z cS).step (n:Int)).drewN q);have HGw:=Q (zC (Z HG) (zC (eF w1 ⟨B,1,none⟩ (H (n:Int))) (dZ _ q _)));have HY':Hid (ed l k=some (strB [],n)):=Z HY;generalize strB []=s at *;have HVA:=Q kz;clear kz;go_wp2_with fail;go_ret;exact txtEnd_done (Z HGw) (Z HY') (by rw[Z HVA];exact Z HRw)
    ·have xy:l ≠ []:=by intro h;rw[h] at cD hlong;simp at cD hlong;omega
     obtain⟨a2,cap2,e2,_,xp⟩:=Z HRd;rw[kz] at e2;simp only[Value.slice.injEq,true_and] at e2;obtain⟨rfl,rfl⟩:=e2;obtain⟨b,off,rfl,xm⟩:=xp xy;have oP:b<w.heap.size:=yK w _ (xm 0 (List.length_pos_iff.2 xy))
     have cw:∀i,i<l.length->w1.cell? ⟨b,off+i,none⟩=some (.int .u8 (l.getD i 0)):=fun i hi =>
      (Z HG).cell (((Z HBl).cell (p:=⟨b,off+i,none⟩) oP).trans (xm i hi)) (by show some b≠some B;intro e;injection e;omega)
     go_wp2_with fail;refine(take_ok B c n b off l.length cap _ (Z cS) (by omega) (by omega) ((Z HCap) _ _ _ kz) (by omega)).mono ?_;rintro e w2 ⟨rfl,q,rfl⟩
     have hcl2:∀i,i<l.length->((w1.setCell ⟨B,1,none⟩ (H (n+c:Nat))).drewN q).cell? ⟨b,off+i,none⟩=some (.int .u8 (l.getD i 0)):=fun i hi=>by
      rw[World.cell?_drewN,yL _ _ _ _ (by intro e;injection e;omega)];exact cw i hi
     have hcv:=gH _ _ _ (piece_rd (cap:=cap-n) hcl2 (show n+c<=l.length by omega) hl);simp only[Int.natCast_add] at hcv;have HRw:=Q (((Z cS).step ((n+c:Nat):Int)).drewN q);have HGw:=Q (zC (Z HG) (zC (eF w1 ⟨B,1,none⟩ (H ((n+c:Nat):Int))) (dZ _ q _)));generalize strB ((l.drop n).take c)=s at *;clear cw hcl2 xm xp;have HVA:=Q kz;clear kz;go_wp2_with fail;go_ret;exact txtEnd_done (Z HGw) (Z HY) (by rw[Z HVA];exact Z HRw)
structure RSr (wb:World) (R:Nat) (v:Value) (l:List Int) (k:Nat) (W:World):Prop where
 rd:Rd wb v l
 cap:dR v
 le:wb.heap.size<=R
 bel:Below wb.heap.size wb W
 r:Rdr R W v k
 kk:k<=l.length
 ll:l.length<=65536
 bb:Bts l
theorem RSr.lt {wb:World}{R:Nat}{v:Value}{l:List Int}{k:Nat}{W:World}(h:RSr wb R v l k W):R<W.heap.size:=yK W _ h.r.1
theorem RSr.go {wb:World}{R:Nat}{v:Value}{l:List Int}{k n:Nat}{W W':World}(h:RSr wb R v l k W)(M:W.grownBy W' (some R))(hr:Rdr R W' v n)(hn:n<=l.length):RSr wb R v l n W':=
 ⟨h.rd,h.cap,h.le,h.bel.trans (gr_below M h.le h.bel.size),hr,hn,h.ll,h.bb⟩
theorem RSr.keep {wb:World}{R:Nat}{v:Value}{l:List Int}{k:Nat}{W W':World}(h:RSr wb R v l k W)(A:yn wb W')(hr:Rdr R W' v k):RSr wb R v l k W':=⟨h.rd,h.cap,h.le,A,hr,h.kk,h.ll,h.bb⟩
theorem RSr.below {wb:World}{R C:Nat}{v:Value}{l:List Int}{k:Nat}{W W':World}(h:RSr wb R v l k W)(A:Below C W W')(hC:R<C):RSr wb R v l k W':=
 h.keep (h.bel.trans (A.mono (Nat.le_of_lt (Nat.lt_of_le_of_lt h.le hC)))) (hU h.r A hC)
theorem number_rs {wb:World}{R:Nat}{v:Value}{l:List Int}{k:Nat}{W:World}(h:RSr wb R v l k W):Calls Tryz.prog 40 #[.pointer (some ⟨R,0,none⟩)] W fun e w'=>NumEnd R v W (getU l k) e w':=
 number_any R v l k wb W h.rd h.cap h.le h.bel h.r h.kk h.ll h.bb
theorem float_rs {wb:World}{R:Nat}{v:Value}{l:List Int}{k:Nat}{W:World}(h:RSr wb R v l k W):Calls Tryz.prog 213 #[.pointer (some ⟨R,0,none⟩)] W fun e w'=>FltEnd R v W (ey l k) e w':=
 float_any R v l k wb W h.rd h.cap h.le h.bel h.r h.kk h.ll h.bb
theorem text_rs {wb:World}{R:Nat}{v:Value}{l:List Int}{k:Nat}{W:World}(h:RSr wb R v l k W):Calls Tryz.prog 215 #[.pointer (some ⟨R,0,none⟩)] W fun e w'=>TxtEnd R v W (ed l k) e w':=
 text_any R v l k wb W h.rd h.cap h.le h.bel h.r h.kk h.ll h.bb
theorem floatA_le {l:List Int}{k x n:Nat}(h:ey l k=some (x,n)):n<=l.length/\k<=n:=by
 unfold ey at h;split at h
 ·cases h
 ·split at h
  ·cases h
  ·simp only[Option.some.injEq,Prod.mk.injEq] at h;omega
theorem textA_le {l:List Int}{k n:Nat}{s:ByteArray}(h:ed l k=some (s,n)):n<=l.length/\k<=n:=by
 unfold ed at h;split at h
 ·cases h
 ·next u m hm =>
  have:=gj 10 0 0 l k u m hm;split at h
  ·cases h
  ·simp only[Option.some.injEq,Prod.mk.injEq] at h;omega
def rdF (o:Nat)(l:List Int)(k:Nat):Option (Value × Nat):=
 if o=7 then(ey l k).map fun x=>(yj x.1,x.2) else if o=8 then(ed l k).map fun x=>(yk x.1,x.2) else(getU l k).map fun x=>(H (unz x.1),x.2)
theorem rdF_le {o k n:Nat}{l:List Int}{x:Value}(h:rdF o l k=some (x,n)):n<=l.length/\k<=n:=by
 unfold rdF at h;split at h
 ·obtain⟨⟨a,b⟩,D,E⟩:=Option.map_eq_some_iff.1 h;cases E;exact floatA_le D
 ·split at h
  ·obtain⟨⟨a,b⟩,D,E⟩:=Option.map_eq_some_iff.1 h;cases E;exact textA_le D
  ·obtain⟨⟨a,b⟩,D,E⟩:=Option.map_eq_some_iff.1 h;cases E;exact gj 10 0 0 l k _ _ D
structure Gr2 (R h2:Nat) (w w':World):Prop where
 os:w'.os=w.os
 tape:w'.tape=w.tape
 output:w'.output=w.output
 size:w.heap.size<=w'.heap.size
 block:∀i,i<w.heap.size->i≠R->i≠h2->w'.heap[i]? = w.heap[i]?
theorem gr2_gr {R h2:Nat}{w w':World}(h:w.grownBy w' (some R)):Gr2 R h2 w w':=⟨h.os,h.tape,h.output,h.size,fun i hi hR _=>h.block i hi (by simpa using hR)⟩
theorem gr2_set {R h2 j:Nat}{u:Value}{w w':World}(h:Gr2 R h2 w w'):Gr2 R h2 w (w'.setCell ⟨h2,j,none⟩ u):=
 ⟨h.os,h.tape,h.output,by have:=h.size;simpa[World.setCell] using this,fun i hi hR hE=>by rw[yS _ _ _ _ (by show i≠h2;exact hE)];exact h.block i hi hR hE⟩
theorem gr2_on {R h2:Nat}{w W W':World}(h:w.grownBy W (some R))(E:Gr2 R h2 W W')(hE:w.heap.size<=h2):w.grownBy W' (some R):=
 ⟨E.os.trans h.os,E.tape.trans h.tape,E.output.trans h.output,yN h.size E.size,fun i hi hR=>by
  rw[E.block i (yJ hi h.size) (by simpa using hR) (by omega)];exact h.block i hi hR⟩
def FdEnd (wb:World)(R h2:Nat)(v:Value)(l:List Int)(o:Nat)(vs:List Value)(W:World)(r:Option (Value × Nat))(e:Ending)(w':World):Prop:=
 Gr2 R h2 W w'/\(∀x n,r=some (x,n)->e = .returned (.tuple #[])/\RSr wb R v l n w'/\Bx w' h2 (vs.set o x))/\(r=none->∃p,e = .panicked (eE 3 p))
theorem fdEnd_fail {wb:World}{R h2:Nat}{v:Value}{l:List Int}{o:Nat}{vs:List Value}{W w':World}{r:Option (Value × Nat)}(M:W.grownBy w' (some R))(hr:r=none)(p:Int):FdEnd wb R h2 v l o vs W r (.panicked (eE 3 p)) w':=
 ⟨gr2_gr M,(fun _ _ h=>by rw[hr] at h;cases h),fun _=>⟨p,rfl⟩⟩
theorem fdEnd_done {wb:World}{R h2:Nat}{v:Value}{l:List Int}{o k:Nat}{vs:List Value}{W w':World}{r:Option (Value × Nat)}{x:Value}{n:Nat}(hs:RSr wb R v l k W)(hx:Bx W h2 vs)(M:W.grownBy w' (some R))(hE:R<h2)(hr:r=some (x,n))(hn:n<=l.length)
  (h:Rdr R w' v n) (K:o<vs.length):FdEnd wb R h2 v l o vs W r (.returned (.tuple #[])) (w'.setCell ⟨h2,o,none⟩ x):=by
 have hEw:h2<W.heap.size:=by
  have:=(hx.t 0 (by omega)).1;obtain⟨y,hy⟩:=Option.isSome_iff_exists.1 this;exact yK W _ hy
 have hx':Bx w' h2 vs:=zQ hx (M.block h2 hEw (by simp;omega));refine⟨gr2_set (gr2_gr M),(fun y m h'=>?_),(fun h'=>by rw[hr] at h';cases h')⟩;rw[hr] at h';cases h';have D:=hs.go M h hn;refine⟨rfl,D.keep ?_ ?_,eh hx' K⟩
 ·exact D.bel.setCell (p:=⟨h2,o,none⟩) (show wb.heap.size<=h2 from Nat.le_of_lt (Nat.lt_of_le_of_lt hs.le hE)) _
 ·exact rdr_grown h (eF w' ⟨h2,o,none⟩ x) (by show R≠h2;omega)
structure Cm where
 k:Int
 s:Int
 t:Int
 l:Int
 q:Int
 i:Int
 p:Nat
 g:ByteArray
def Cm.vs (c:Cm):List Value:=(yx c.k c.s c.t c.l c.q c.i c.p c.g)
theorem Cm.len (c:Cm):c.vs.length=8:=rfl
theorem cm_cells {w:World}{b o:Nat}{c:Cm}(h:w.rangeAt b o c.vs) :
  w.cell? (U b o)=some (H c.k)/\w.cell? (U b (o+1))=some (H c.s)/\w.cell? (U b (o+2))=some (H c.t)/\w.cell? (U b (o+3))=some (H c.l) /\
  w.cell? (U b (o+4))=some (H c.q)/\w.cell? (U b (o+5))=some (H c.i)/\w.cell? (U b (o+6))=some (yj c.p)/\w.cell? (U b (o+7))=some (yk c.g):=
 ⟨h 0 _ rfl,h 1 _ rfl,h 2 _ rfl,h 3 _ rfl,h 4 _ rfl,h 5 _ rfl,h 6 _ rfl,h 7 _ rfl⟩
theorem zI {w:World}{b o n:Nat}(h:w.there b o n)(j:Nat)(hj:j<n):∃v,w.cell? (U b (o+j))=some v/\w.frozen? (U b (o+j))=false:=by
 obtain⟨v,hv⟩:=Option.isSome_iff_exists.1 (h j hj).1;exact⟨v,hv,(h j hj).2⟩
theorem there8 {w:World}{b o:Nat}(h:w.there b o 8) :
  (∃v,w.cell? (U b o)=some v/\w.frozen? (U b o)=false)/\(∃v,w.cell? (U b (o+1))=some v/\w.frozen? (U b (o+1))=false) /\
  (∃v,w.cell? (U b (o+2))=some v/\w.frozen? (U b (o+2))=false)/\(∃v,w.cell? (U b (o+3))=some v/\w.frozen? (U b (o+3))=false) /\
  (∃v,w.cell? (U b (o+4))=some v/\w.frozen? (U b (o+4))=false)/\(∃v,w.cell? (U b (o+5))=some v/\w.frozen? (U b (o+5))=false) /\
  (∃v,w.cell? (U b (o+6))=some v/\w.frozen? (U b (o+6))=false)/\(∃v,w.cell? (U b (o+7))=some v/\w.frozen? (U b (o+7))=false):=
 ⟨zI h 0 (by omega),zI h 1 (by omega),zI h 2 (by omega),zI h 3 (by omega),zI h 4 (by omega),zI h 5 (by omega),zI h 6 (by omega),zI h 7 (by omega)⟩
theorem sfl (a:Addr)(x:Nat)(m:Mode)(w:World):(store a (yj x) m).run Tryz.prog w=stored Tryz.prog w a (yj x) m:=run_store _ w a _ m rfl
def fbit (x:Nat):Nat:=if nanB x=true then 9221120237041090560 else x
theorem floatBits_any (x:Nat)(w:World) :
  Calls Tryz.prog 206 #[yj x] w fun e w'=>e=ym (.int .u64 (fbit x))/\w'=w:=by
 have A:=fbits;cases h:nanB x
 case true =>
  have HX:Hid (fbit x=9221120237041090560):=if_pos h;go_enter Tryz.func206,Tryz.ntmps206;go_wp2_with (go_at_call 220;refine(iY _ _).mono ?_;rintro e w' ⟨rfl,rfl⟩);go_ret;exact⟨by rw[Z HX];rfl,rfl⟩
 case false =>
  have HX:Hid (fbit x=x):=if_neg (by rw[h];decide);go_enter Tryz.func206,Tryz.ntmps206;go_wp2_with (go_at_call 220;refine(iY _ _).mono ?_;rintro e w' ⟨rfl,rfl⟩);go_ret;exact⟨by rw[Z HX];rfl,rfl⟩
end Go.Proofs.YtbghmldggahjiaaGreatDoor
