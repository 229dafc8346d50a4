/-
  What the reading of a float does, proved by walking it: the float of eight bytes, or the reader's fault.
-/
import Derived.Test.YthhkapcbocgcoaaGreatDoorGj22
import Derived.Laws.BytesString
set_option linter.unusedVariables false
set_option maxHeartbeats 6400000
set_option maxRecDepth 100000
namespace Go.Proofs.YthhkapcbocgcoaaGreatDoor
open Go.RowKit
theorem frombits (n:Int) (w:World):(callFunc 191 #[.int .u64 n]).run Tryz.prog w = .ok (.value (yj n.toNat)) w:=by
 rw [run_callFunc_extern (e:=Extern.MathFloatBits.float64frombits) Tryz.func191 (by kernel_rfl) (by kernel_rfl) (by kernel_rfl) (by kernel_rfl)]
 rfl
def shl8 (u:Nat) (c:Int):Nat:=u * 256 + c.toNat
def cF (l:List Int) (k i:Nat):Nat:=((l.drop k).take i).foldl shl8 0
theorem bits8_step (l:List Int) (k i:Nat) (h:k + i < l.length):cF l k (i + 1) = shl8 (cF l k i) (l.getD (k + i) 0):=by
 unfold cF
 rw [List.take_succ_eq_append_getElem (by rw [List.length_drop]; omega),List.foldl_append]
 simp [h]
theorem bits8_lt (l:List Int) (k:Nat) (A:Bts l):∀ i,cF l k i < 256 ^ i
 | 0=>by simp [cF]
 | i + 1=>by
  have ih:=bits8_lt l k A i
  by_cases h:k + i < l.length
  ·rw [bits8_step l k i h,Nat.pow_succ]
   have:=bts_get A (k + i)
   unfold shl8
   omega
  ·have e:cF l k (i + 1) = cF l k i:=by
    unfold cF
    rw [xa (by rw [List.length_drop]; omega),xa (by rw [List.length_drop]; omega)]
   rw [e,Nat.pow_succ]; omega
theorem or8 (u:Nat) (c:Int) (hu:u < 72057594037927936) (h0:0 ≤ c) (Q:c ≤ 255):bits .or .u64 (IntKind.u64.wrap ((u:Int) * 256)) c = (shl8 u c:Int):=by
 have e2:(u:Int) * 256 = ((u * 256:Nat):Int):=by omega
 obtain ⟨d,rfl⟩:=Int.eq_ofNat_of_zero_le h0
 rw [e2,IntKind.wrap_u64,Int.emod_eq_of_lt (by omega) (by omega),u64_or_nat _ _ (by omega) (by omega)]
 rw [nat_join 8 _ _ (by omega) (by omega)]
 unfold shl8
 rw [Int.toNat_natCast]
def dC (l:List Int) (k:Nat):Option (Nat × Nat) :=
 if l.length < k + 8 then none else if nanB (cF l k 8) = true∧cF l k 8 ≠ 9221120237041090560 then none else some (cF l k 8,k + 8)
theorem floatA_end {l:List Int} {k:Nat} (h:l.length < k + 8):dC l k = none:=if_pos h
theorem floatA_bad {l:List Int} {k:Nat} (h:¬ l.length < k + 8) (A:nanB (cF l k 8) = true∧cF l k 8 ≠ 9221120237041090560):dC l k = none:=by
 unfold dC; rw [if_neg h,if_pos A]
theorem floatA_yes {l:List Int} {k:Nat} (h:¬ l.length < k + 8) (A:¬ (nanB (cF l k 8) = true∧cF l k 8 ≠ 9221120237041090560)):dC l k = some (cF l k 8,k + 8):=by
 unfold dC; rw [if_neg h,if_neg A]
def FltEnd (B:Nat) (v:Value) (w:World) (r:Option (Nat × Nat)) (e:Ending) (w':World):Prop :=
 w.grownBy w' (some B)∧(∀ x next,r = some (x,next)→e = .returned (yj x)∧Rdr B w' v next)∧(r = none→∃ p,e = .panicked (cX 3 p))
theorem fltEnd_fail {B:Nat} {v:Value} {w w':World} {r:Option (Nat × Nat)} (hg:w.grownBy w' (some B)) (hr:r = none) (p:Int):FltEnd B v w r (.panicked (cX 3 p)) w' :=
 ⟨hg,(fun _ _ h=>by rw [hr] at h; cases h),fun _=>⟨p,rfl⟩⟩
theorem fltEnd_done {B:Nat} {v:Value} {w w':World} {r:Option (Nat × Nat)} {u n:Nat} (hg:w.grownBy w' (some B)) (hr:r = some (u,n)) (h:Rdr B w' v n):FltEnd B v w r (.returned (yj u)) w' :=
 ⟨hg,(fun a b h'=>by rw [hr] at h'; cases h'; exact ⟨rfl,h⟩),(fun h'=>by rw [hr] at h'; cases h')⟩
theorem float_some (B:Nat) (w0:World) (b off cap k:Nat) (l:List Int) (hr:Rdr B w0 (.slice (some ⟨b,off,none⟩) l.length cap) k) (h8:k + 8 ≤ l.length) (hl:l.length ≤ 65536) (uq:l.length ≤ cap) (bG:b ≠ B)
  (hc:∀ i,i < l.length→w0.cell? ⟨b,off + i,none⟩ = some (.int .u8 (l.getD i 0))) (A:Bts l) :
  Calls Tryz.prog 177 #[.pointer (some ⟨B,0,none⟩)] w0 fun e w'=>FltEnd B (.slice (some ⟨b,off,none⟩) l.length cap) w0 (dC l k) e w':=by
 have HR:=M hr
 have HC:=M hc
 have HB:=M A
 have oS:=frombits
 have ah:=M (floatA_bad (l:=l) (k:=k) (by omega))
 have HYes:=M (floatA_yes (l:=l) (k:=k) (by omega))
 clear hr hc A
 go_enter Tryz.func177,Tryz.ntmps177
 go_wp2_with fail
 refine (take_ok B 8 k b off l.length cap _ (U HR) (by omega) (by omega) uq (by omega)).mono ?_
 rintro e w1 ⟨rfl,q,rfl⟩
 have HRw:=M (((U HR).step ((k + 8:Nat):Int)).drewN q)
 have HGw:=M (zA (ei w0 ⟨B,1,none⟩ (H ((k + 8:Nat):Int))) (cS _ q _))
 go_wp2_with fail
 go_loop [3,10] (fun uv iv=>∃ i:Nat,i ≤ 8∧iv = H i∧uv = .int .u64 (cF l k i)) (fun _ iv=>8 - (intOf iv).toNat)
 case atStart=>exact ⟨0,by omega,rfl,rfl⟩
 case round =>
  obtain ⟨i,hi,rfl,rfl⟩:=hrel
  by_cases xM:i < 8
  ·have hcx:=U HC (k + i) (by omega)
   rw [← Nat.add_assoc] at hcx
   have qG:=bts_get (U HB) (k + i)
   have hlt8:=bits8_lt l k (U HB) i
   have hp:256 ^ i ≤ 72057594037927936:=yO (Nat.pow_le_pow_right (by omega) (show i ≤ 7 by omega)) (by decide)
   have hor:=or8 (cF l k i) (l.getD (k + i) 0) (by omega) qG.1 qG.2
   have HS:=M (bits8_step l k i (by omega))
   rw [← U HS] at hor
   have vj:(i:Int) < 8:=by omega
   generalize l.getD (k + i) 0 = c at *
   generalize hu:cF l k i = u at *
   generalize hu':cF l k (i + 1) = u' at *
   have HU':=M hu'
   clear hlt8 hp hu hu'
   obtain ⟨kT,js⟩:=qG
   go_wp2_with fail
   go_round
   case rel=>exact ⟨i + 1,by omega,by go_num,by rw [U HU']⟩
   case measure=>simp [intOf]; omega
  ·obtain rfl:i = 8:=by omega
   generalize cF l k 8 = u at *
   cases hn:nanB u with
   | true =>
    by_cases he:u = 9221120237041090560
    ·have HY:=M (U HYes (by intro h; exact h.2 he))
     have he':((u:Int) != 9221120237041090560) = false:=by rw [he]; rfl
     clear he
     go_wp2_with (go_at_call 146; refine (gg _ _).mono ?_; rintro e w' ⟨rfl,rfl⟩)
     go_ret
     exact fltEnd_done (U HGw) (U HY) (U HRw)
    ·have HY:=M (U ah ⟨hn,he⟩)
     have he':((u:Int) != 9221120237041090560) = true:=by rw [bne_iff_ne]; omega
     clear he
     go_wp2_with (go_at_call 146; refine (gg _ _).mono ?_; rintro e w' ⟨rfl,rfl⟩)
     refine (et B 3 _ _ _ (U HRw)).mono ?_
     rintro e w2 ⟨rfl,rfl⟩
     go_wp2_with fail
     exact ⟨rfl,fltEnd_fail (U HGw) (U HY) _⟩
   | false =>
    have HY:=M (U HYes (by intro h; rw [hn] at h; cases h.1))
    go_wp2_with (go_at_call 146; refine (gg _ _).mono ?_; rintro e w' ⟨rfl,rfl⟩)
    go_ret
    exact fltEnd_done (U HGw) (U HY) (U HRw)
theorem float_end (B:Nat) (w0:World) (a:Option Addr) (cap k:Nat) (l:List Int) (hr:Rdr B w0 (.slice a l.length cap) k) (E:k ≤ l.length) (h8:l.length < k + 8) (hl:l.length ≤ 65536) :
  Calls Tryz.prog 177 #[.pointer (some ⟨B,0,none⟩)] w0 fun e w'=>FltEnd B (.slice a l.length cap) w0 (dC l k) e w':=by
 have HR:=M hr
 have HY:=M (floatA_end h8)
 clear hr
 go_enter Tryz.func177,Tryz.ntmps177
 go_wp2_with fail
 refine (take_end B 8 k a l.length cap _ (U HR) (by omega) (by omega) (by omega) (by omega) (by omega)).mono ?_
 rintro e w1 ⟨rfl,q,rfl⟩
 go_wp2_with fail
 exact ⟨rfl,fltEnd_fail (cS _ _ _) (U HY) _⟩
theorem float_any (B:Nat) (v:Value) (l:List Int) (k:Nat) (w w0:World) (xN:Rd w v l) (uq:CapOk v) (jU:w.heap.size ≤ B) (xi:yn w w0) (hr:Rdr B w0 v k) (E:k ≤ l.length) (hl:l.length ≤ 65536) (A:Bts l) :
  Calls Tryz.prog 177 #[.pointer (some ⟨B,0,none⟩)] w0 fun e w'=>FltEnd B v w0 (dC l k) e w':=by
 obtain ⟨a,cap,rfl,_,hc⟩:=xN
 by_cases h8:l.length < k + 8
 ·exact float_end B w0 a cap k l hr E h8 hl
 ·obtain ⟨b,off,rfl,xr⟩:=hc (by intro h; rw [h] at h8; simp at h8)
  have oD:b < w.heap.size:=yL w _ (xr 0 (by omega))
  exact float_some B w0 b off cap k l hr (by omega) hl (uq _ _ _ rfl) (by omega) (fun i hi=>(xi.cell (p:=⟨b,off + i,none⟩) oD).trans (xr i hi)) A
def strB (ns:List Int):ByteArray:=ns.foldl (fun r n=>r.push (UInt8.ofNat n.toNat)) ByteArray.empty
theorem load_row {P:Program} (W:World) (b off:Nat) (ns:List Int) (h:∀ i,i < ns.length→W.cell? (J b (off + i)) = some (.int .u8 (ns.getD i 0))) :
  ∀ (m i:Nat) (acc:Array Value),i + m = ns.length→acc = ((ns.take i).map (Value.int .u8)).toArray→(loadCellsFrom (J b off) i m acc).run P W = .ok (ns.map (Value.int .u8)).toArray W:=by
 intro m
 induction m with
 | zero =>
  intro i acc hi ha
  subst ha
  rw [xa (by omega)]
  rfl
 | succ m ih =>
  intro i acc hi ha
  have e:((J b off):Addr).add i = (J b (off + i)):=by unfold Addr.add; split <;> simp_all
  have hc:=h i (by omega)
  simp only [loadCellsFrom,Sem.run_bind,e]
  have hl:(load (J b (off + i))).run P W = .ok (.int .u8 (ns.getD i 0)) W:=by simp [hc]
  rw [hl]
  simp only [Result.andThen]
  refine ih (i + 1) _ (by omega) ?_
  rw [ha,take_get ns i (by omega),List.map_append]
  simp
theorem conv_text (v:Value) (ns:List Int) (W:World) (hr:Rd W v ns) :
  (convert 22 9 v).run Tryz.prog W = .ok (yk (strB ns)) W:=by
 obtain ⟨a,cap,rfl,_,hc⟩:=hr
 rw [run_convert_bytes_string W _ _ 5 a _ _ Tryz.underlying22 Tryz.underlying5 Tryz.underlying9]
 by_cases xC:ns = []
 ·subst xC
  cases a with
  | none=>rfl
  | some ad=>rfl
 ·obtain ⟨b,off,rfl,xr⟩:=hc xC
  exact run_bytesToString W (J b off) ns.length cap ns (load_row W b off ns xr ns.length 0 #[] (by omega) rfl)
theorem take_zero (B:Nat) (k:Nat) (a:Option Addr) (len cap:Nat) (w:World) (hr:Rdr B w (.slice a len cap) k) (Q:k ≤ len) (hl:len ≤ 1073741824) (uq:len ≤ cap) :
  Calls Tryz.prog 144 #[.pointer (some ⟨B,0,none⟩),H 0] w fun e w'=>(∃ a' c',e = .returned (.slice a' 0 c'))∧∃ q,w' = (w.setCell ⟨B,1,none⟩ (H k)).drewN q:=by
 obtain ⟨c1,c2,c3⟩:=hr
 have aM:(k:Int) ≤ len:=by omega
 have og:¬ ((len:Int) - k < 0):=by omega
 have h3':(k:Int) ≤ cap:=by omega
 go_enter Tryz.func144,Tryz.ntmps144
 go_wp2_with fail
 go_quiet (fail)
 go_wp2_with fail
 go_quiet (fail)
 go_wp2_with fail
 all_goals go_ret
 all_goals exact ⟨⟨_,_,by simp; exact ⟨rfl,rfl⟩⟩,_,rfl⟩
def textA (l:List Int) (k:Nat):Option (ByteArray × Nat) :=
 match getU l k with
 | none=>none
 | some (u,n)=>if unz u < 0 ∨ 13 < unz u ∨ (l.length:Int) - n < unz u then none else some (strB ((l.drop n).take (unz u).toNat),n + (unz u).toNat)
theorem textA_no {l:List Int} {k:Nat} (h:getU l k = none):textA l k = none:=by unfold textA; rw [h]
theorem textA_bad {l:List Int} {k u n:Nat} (h:getU l k = some (u,n)) (A:unz u < 0 ∨ 13 < unz u ∨ (l.length:Int) - n < unz u):textA l k = none:=by
 unfold textA; rw [h]; simp only; rw [if_pos A]
theorem textA_yes {l:List Int} {k u n:Nat} (h:getU l k = some (u,n)) (A:¬ (unz u < 0 ∨ 13 < unz u ∨ (l.length:Int) - n < unz u)) :
  textA l k = some (strB ((l.drop n).take (unz u).toNat),n + (unz u).toNat):=by
 unfold textA; rw [h]; simp only; rw [if_neg A]
theorem getU_le:∀ (f i u:Nat) (l:List Int) (k v n:Nat),scan l k f i u = some (v,n)→n ≤ l.length∧k ≤ n
 | 0,_,_,_,_,_,_,h=>by simp [scan] at h
 | f + 1,i,u,l,k,v,n,h=>by
  rw [scan] at h
  split at h
  ·cases h
  ·split at h
   ·cases h
   ·split at h
    ·simp only [Option.some.injEq,Prod.mk.injEq] at h; omega
    ·exact getU_le f (i + 1) _ l k v n h
def TxtEnd (B:Nat) (v:Value) (w:World) (r:Option (ByteArray × Nat)) (e:Ending) (w':World):Prop :=
 w.grownBy w' (some B)∧(∀ s next,r = some (s,next)→e = .returned (yk s)∧Rdr B w' v next)∧(r = none→∃ p,e = .panicked (cX 3 p))
theorem gO {B:Nat} {v:Value} {w w':World} {r:Option (ByteArray × Nat)} (hg:w.grownBy w' (some B)) (hr:r = none) (p:Int):TxtEnd B v w r (.panicked (cX 3 p)) w' :=
 ⟨hg,(fun _ _ h=>by rw [hr] at h; cases h),fun _=>⟨p,rfl⟩⟩
theorem piece_rd {w:World} {b off cap n c:Nat} {l:List Int} (h:∀ i,i < l.length→w.cell? ⟨b,off + i,none⟩ = some (.int .u8 (l.getD i 0))) (hn:n + c ≤ l.length) (hl:l.length ≤ 65536) :
  Rd w (.slice (some ⟨b,off + n,none⟩) c cap) ((l.drop n).take c):=by
 have xD:((l.drop n).take c).length = c:=by rw [List.length_take,List.length_drop]; omega
 refine ⟨_,cap,by rw [xD],by omega,fun _=>⟨b,off + n,rfl,fun i hi=>?_⟩⟩
 rw [xD] at hi
 have:=h (n + i) (by omega)
 rw [Nat.add_assoc,this]
 have e:((l.drop n).take c).getD i 0 = l.getD (n + i) 0:=by simp [hi,List.getElem?_drop]
 rw [e]
theorem txtEnd_done {B:Nat} {v:Value} {w w':World} {r:Option (ByteArray × Nat)} {s:ByteArray} {n:Nat} (hg:w.grownBy w' (some B)) (hr:r = some (s,n)) (h:Rdr B w' v n):TxtEnd B v w r (.returned (yk s)) w' :=
 ⟨hg,(fun a b h'=>by rw [hr] at h'; cases h'; exact ⟨rfl,h⟩),(fun h'=>by rw [hr] at h'; cases h')⟩
theorem text_any (B:Nat) (v:Value) (l:List Int) (k:Nat) (w w0:World) (xN:Rd w v l) (uq:CapOk v) (jU:w.heap.size ≤ B) (xi:yn w w0) (hr:Rdr B w0 v k) (E:k ≤ l.length) (hl:l.length ≤ 65536) (A:Bts l) :
  Calls Tryz.prog 179 #[.pointer (some ⟨B,0,none⟩)] w0 fun e w'=>TxtEnd B v w0 (textA l k) e w':=by
 have HN:=M (number_any B v l k w w0 xN uq jU xi hr E hl A)
 have HRd:=M xN
 have HBl:=M xi
 have hv:=rd_len xN
 have HCap:=M uq
 clear xN xi hr uq
 go_enter Tryz.func179,Tryz.ntmps179
 go_wp2_with fail
 refine (U HN).mono ?_
 rintro e w1 hN
 cases hg:getU l k with
 | none =>
  obtain ⟨p,rfl⟩:=hN.2.2 hg
  have HG:=M hN.1
  have HT:=M (textA_no hg)
  clear hN hg
  go_wp2_with fail
  exact ⟨rfl,gO (U HG) (U HT) _⟩
 | some x =>
  obtain ⟨u,n⟩:=x
  obtain ⟨rfl,hrn⟩:=hN.2.1 u n hg
  have HG:=M hN.1
  have bC:=M hrn
  have qx:=getU_le 10 0 0 l k u n hg
  have ah:=M (fun h=>textA_bad hg h)
  have HYes:=M (fun h=>textA_yes hg h)
  clear hN hrn hg
  generalize unz u = z at *
  obtain ⟨hn1,hn2⟩:=qx
  by_cases hbad:z < 0 ∨ 13 < z
  ·have HT:=M (U ah (by omega))
   rcases (show z < 0 ∨ (0 ≤ z∧13 < z) by omega) with Q | ⟨Q,D⟩
   all_goals
    clear hbad
    go_wp2_with fail
    refine (et B 3 _ _ _ (U bC)).mono ?_
    rintro e w2 ⟨rfl,rfl⟩
    go_wp2_with fail
    exact ⟨rfl,gO (U HG) (U HT) _⟩
  ·obtain ⟨c,rfl⟩:=Int.eq_ofNat_of_zero_le (show 0 ≤ z by omega)
   have hc13:(c:Int) ≤ 13:=by omega
   clear hbad
   obtain ⟨a,cap,hva⟩:=hv
   by_cases hlong:(l.length:Int) - n < c
   ·have HT:=M (U ah (by omega))
    rw [hva] at bC
    go_wp2_with fail
    refine (take_end B c n a l.length cap _ (U bC) (by omega) (by omega) (by omega) hlong (by omega)).mono ?_
    rintro e w2 ⟨rfl,q,rfl⟩
    go_wp2_with fail
    exact ⟨rfl,gO (zA (U HG) (cS _ _ _)) (U HT) _⟩
   ·have HY:=M (U HYes (by omega))
    rw [Int.toNat_natCast] at HY
    rw [hva] at bC
    by_cases kT:c = 0
    ·subst kT
     go_wp2_with fail
     refine (take_zero B n a l.length cap _ (U bC) (by omega) (by omega) ((U HCap) _ _ _ hva)).mono ?_
     rintro e w2 ⟨⟨a',c',rfl⟩,q,rfl⟩
     have hcv:=fun W=>conv_text (.slice a' 0 c') [] W ⟨a',c',rfl,by simp,fun h=>absurd rfl h⟩
     have HRw:=M (((U bC).step (n:Int)).drewN q)
     have HGw:=M (zA (U HG) (zA (ei w1 ⟨B,1,none⟩ (H (n:Int))) (cS _ q _)))
     have HY':Hid (textA l k = some (strB [],n)):=U HY
     generalize strB [] = s at *
     have HVA:=M hva
     clear hva
     go_wp2_with fail
     go_ret
     exact txtEnd_done (U HGw) (U HY') (by rw [U HVA]; exact U HRw)
    ·have xC:l ≠ []:=by intro h; rw [h] at hn1 hlong; simp at hn1 hlong; omega
     obtain ⟨a2,cap2,e2,_,xr⟩:=U HRd
     rw [hva] at e2
     simp only [Value.slice.injEq,true_and] at e2
     obtain ⟨rfl,rfl⟩:=e2
     obtain ⟨b,off,rfl,xo⟩:=xr xC
     have oD:b < w.heap.size:=yL w _ (xo 0 (List.length_pos_iff.2 xC))
     have aR:∀ i,i < l.length→w1.cell? ⟨b,off + i,none⟩ = some (.int .u8 (l.getD i 0)):=fun i hi =>
      (U HG).cell (((U HBl).cell (p:=⟨b,off + i,none⟩) oD).trans (xo i hi)) (by show some b ≠ some B; intro e; injection e; omega)
     go_wp2_with fail
     refine (take_ok B c n b off l.length cap _ (U bC) (by omega) (by omega) ((U HCap) _ _ _ hva) (by omega)).mono ?_
     rintro e w2 ⟨rfl,q,rfl⟩
     have hcl2:∀ i,i < l.length→((w1.setCell ⟨B,1,none⟩ (H (n + c:Nat))).drewN q).cell? ⟨b,off + i,none⟩ = some (.int .u8 (l.getD i 0)):=fun i hi=>by
      rw [World.cell?_drewN,yM _ _ _ _ (by intro e; injection e; omega)]; exact aR i hi
     have hcv:=conv_text _ _ _ (piece_rd (cap:=cap - n) hcl2 (show n + c ≤ l.length by omega) hl)
     simp only [Int.natCast_add] at hcv
     have HRw:=M (((U bC).step ((n + c:Nat):Int)).drewN q)
     have HGw:=M (zA (U HG) (zA (ei w1 ⟨B,1,none⟩ (H ((n + c:Nat):Int))) (cS _ q _)))
     generalize strB ((l.drop n).take c) = s at *
     clear aR hcl2 xo xr
     have HVA:=M hva
     clear hva
     go_wp2_with fail
     go_ret
     exact txtEnd_done (U HGw) (U HY) (by rw [U HVA]; exact U HRw)
structure RSr (wb:World) (R:Nat) (v:Value) (l:List Int) (k:Nat) (W:World):Prop where
 rd:Rd wb v l
 cap:CapOk v
 le:wb.heap.size ≤ R
 bel:Below wb.heap.size wb W
 r:Rdr R W v k
 kk:k ≤ l.length
 ll:l.length ≤ 65536
 bb:Bts l
theorem RSr.lt {wb:World} {R:Nat} {v:Value} {l:List Int} {k:Nat} {W:World} (h:RSr wb R v l k W):R < W.heap.size:=yL W _ h.r.1
theorem RSr.go {wb:World} {R:Nat} {v:Value} {l:List Int} {k n:Nat} {W W':World} (h:RSr wb R v l k W) (hg:W.grownBy W' (some R)) (hr:Rdr R W' v n) (hn:n ≤ l.length):RSr wb R v l n W' :=
 ⟨h.rd,h.cap,h.le,h.bel.trans (gr_below hg h.le h.bel.size),hr,hn,h.ll,h.bb⟩
theorem RSr.keep {wb:World} {R:Nat} {v:Value} {l:List Int} {k:Nat} {W W':World} (h:RSr wb R v l k W) (A:yn wb W') (hr:Rdr R W' v k):RSr wb R v l k W':=⟨h.rd,h.cap,h.le,A,hr,h.kk,h.ll,h.bb⟩
theorem RSr.below {wb:World} {R C:Nat} {v:Value} {l:List Int} {k:Nat} {W W':World} (h:RSr wb R v l k W) (A:Below C W W') (hC:R < C):RSr wb R v l k W' :=
 h.keep (h.bel.trans (A.mono (Nat.le_of_lt (Nat.lt_of_le_of_lt h.le hC)))) (fF h.r A hC)
theorem number_rs {wb:World} {R:Nat} {v:Value} {l:List Int} {k:Nat} {W:World} (h:RSr wb R v l k W):Calls Tryz.prog 175 #[.pointer (some ⟨R,0,none⟩)] W fun e w'=>NumEnd R v W (getU l k) e w' :=
 number_any R v l k wb W h.rd h.cap h.le h.bel h.r h.kk h.ll h.bb
theorem float_rs {wb:World} {R:Nat} {v:Value} {l:List Int} {k:Nat} {W:World} (h:RSr wb R v l k W):Calls Tryz.prog 177 #[.pointer (some ⟨R,0,none⟩)] W fun e w'=>FltEnd R v W (dC l k) e w' :=
 float_any R v l k wb W h.rd h.cap h.le h.bel h.r h.kk h.ll h.bb
theorem text_rs {wb:World} {R:Nat} {v:Value} {l:List Int} {k:Nat} {W:World} (h:RSr wb R v l k W):Calls Tryz.prog 179 #[.pointer (some ⟨R,0,none⟩)] W fun e w'=>TxtEnd R v W (textA l k) e w' :=
 text_any R v l k wb W h.rd h.cap h.le h.bel h.r h.kk h.ll h.bb
theorem floatA_le {l:List Int} {k x n:Nat} (h:dC l k = some (x,n)):n ≤ l.length∧k ≤ n:=by
 unfold dC at h
 split at h
 ·cases h
 ·split at h
  ·cases h
  ·simp only [Option.some.injEq,Prod.mk.injEq] at h; omega
theorem textA_le {l:List Int} {k n:Nat} {s:ByteArray} (h:textA l k = some (s,n)):n ≤ l.length∧k ≤ n:=by
 unfold textA at h
 split at h
 ·cases h
 ·next u m hm =>
  have:=getU_le 10 0 0 l k u m hm
  split at h
  ·cases h
  ·simp only [Option.some.injEq,Prod.mk.injEq] at h; omega
def rdF (o:Nat) (l:List Int) (k:Nat):Option (Value × Nat) :=
 if o = 7 then (dC l k).map fun x=>(yj x.1,x.2) else if o = 8 then (textA l k).map fun x=>(yk x.1,x.2) else (getU l k).map fun x=>(H (unz x.1),x.2)
structure Gr2 (R hk:Nat) (w w':World):Prop where
 os:w'.os = w.os
 tape:w'.tape = w.tape
 output:w'.output = w.output
 size:w.heap.size ≤ w'.heap.size
 block:∀ i,i < w.heap.size→i ≠ R→i ≠ hk→w'.heap[i]? = w.heap[i]?
theorem gr2_gr {R hk:Nat} {w w':World} (h:w.grownBy w' (some R)):Gr2 R hk w w':=⟨h.os,h.tape,h.output,h.size,fun i hi F _=>h.block i hi (by simpa using F)⟩
theorem gr2_set {R hk j:Nat} {u:Value} {w w':World} (h:Gr2 R hk w w'):Gr2 R hk w (w'.setCell ⟨hk,j,none⟩ u) :=
 ⟨h.os,h.tape,h.output,by have:=h.size; simpa [World.setCell] using this,fun i hi F hE=>by rw [yT _ _ _ _ (by show i ≠ hk; exact hE)]; exact h.block i hi F hE⟩
theorem gr2_on {R hk:Nat} {w W W':World} (h:w.grownBy W (some R)) (D:Gr2 R hk W W') (hE:w.heap.size ≤ hk):w.grownBy W' (some R) :=
 ⟨D.os.trans h.os,D.tape.trans h.tape,D.output.trans h.output,yO h.size D.size,fun i hi F=>by
  rw [D.block i (yK hi h.size) (by simpa using F) (by omega)]; exact h.block i hi F⟩
def FdEnd (wb:World) (R hk:Nat) (v:Value) (l:List Int) (o:Nat) (vs:List Value) (W:World) (r:Option (Value × Nat)) (e:Ending) (w':World):Prop :=
 Gr2 R hk W w'∧(∀ x n,r = some (x,n)→e = .returned (.tuple #[])∧RSr wb R v l n w'∧Bx w' hk (vs.set o x))∧(r = none→∃ p,e = .panicked (cX 3 p))
theorem fdEnd_fail {wb:World} {R hk:Nat} {v:Value} {l:List Int} {o:Nat} {vs:List Value} {W w':World} {r:Option (Value × Nat)} (hg:W.grownBy w' (some R)) (hr:r = none) (p:Int):FdEnd wb R hk v l o vs W r (.panicked (cX 3 p)) w' :=
 ⟨gr2_gr hg,(fun _ _ h=>by rw [hr] at h; cases h),fun _=>⟨p,rfl⟩⟩
theorem fdEnd_done {wb:World} {R hk:Nat} {v:Value} {l:List Int} {o k:Nat} {vs:List Value} {W w':World} {r:Option (Value × Nat)} {x:Value} {n:Nat} (hs:RSr wb R v l k W) (hx:Bx W hk vs) (hg:W.grownBy w' (some R)) (hE:R < hk) (hr:r = some (x,n)) (hn:n ≤ l.length)
  (h:Rdr R w' v n) (Y:o < vs.length):FdEnd wb R hk v l o vs W r (.returned (.tuple #[])) (w'.setCell ⟨hk,o,none⟩ x):=by
 have hEw:hk < W.heap.size:=by
  have:=(hx.t 0 (by omega)).1
  obtain ⟨y,hy⟩:=Option.isSome_iff_exists.1 this
  exact yL W _ hy
 have hx':Bx w' hk vs:=cE hx (hg.block hk hEw (by simp; omega))
 refine ⟨gr2_set (gr2_gr hg),(fun y m h'=>?_),(fun h'=>by rw [hr] at h'; cases h')⟩
 rw [hr] at h'; cases h'
 have Q:=hs.go hg h hn
 refine ⟨rfl,Q.keep ?_ ?_,eh hx' Y⟩
 ·exact Q.bel.setCell (p:=⟨hk,o,none⟩) (show wb.heap.size ≤ hk from Nat.le_of_lt (Nat.lt_of_le_of_lt hs.le hE)) _
 ·exact rdr_grown h (ei w' ⟨hk,o,none⟩ x) (by show R ≠ hk; omega)
theorem rdF_num {o k:Nat} {l:List Int} (h:plcO o = true):rdF o l k = (getU l k).map fun x=>(H (unz x.1),x.2):=by
 unfold plcO at h
 unfold rdF
 rw [if_neg (by intro e; subst e; simp at h),if_neg (by intro e; subst e; simp at h)]
theorem plc_enter (o:Nat) (h:plcO o = true) (args:Array Value) (W:World):(callFunc (plcV o) args).run Tryz.prog W = .ok (.enter (plcV o) args) W:=by
 rcases (show o = 1 ∨ o = 2 ∨ o = 3 ∨ o = 4 ∨ o = 5 ∨ o = 6 ∨ o = 9 ∨ o = 10 ∨ o = 11 ∨ o = 12 ∨ o = 13 by simp [plcO] at h; omega) with rfl | rfl | rfl | rfl | rfl | rfl | rfl | rfl | rfl | rfl | rfl
 all_goals kernel_rfl
theorem readNum_any (wb:World) (R hk b o:Nat) (v:Value) (l:List Int) (k:Nat) (vs:List Value) (W:World) (hs:RSr wb R v l k W) (hx:Bx W hk vs) (hE:R < hk) (Y:plcO o = true) (hv:vs.length = 14) (hbR:R ≠ b) (hc:W.cell? ⟨b,0,none⟩ = some (.func (.func (plcV o)) #[] #[])) :
  Calls Tryz.prog 174 #[.pointer (some ⟨R,0,none⟩),.pointer (some ⟨hk,0,none⟩),.pointer (some ⟨b,0,none⟩)] W fun e w'=>FdEnd wb R hk v l o vs W (rdF o l k) e w':=by
 have kl:o < vs.length:=by unfold plcO at Y; simp at Y; omega
 have HP:=M (fun W=>plc_any o hk W Y)
 have hpe:=plc_enter o Y
 have HF:=M (rdF_num (l:=l) (k:=k) Y)
 have HS:=M hs
 have HX:=M hx
 have HV:=M hv
 clear hs hx Y hv
 generalize plcV o = f at *
 go_enter Tryz.func174,Tryz.ntmps174
 go_wp2_with fail
 refine (U HP _).mono ?_
 rintro e w1 ⟨rfl,kW⟩
 rw [kW]
 clear kW
 go_wp2_with fail
 refine (number_rs (U HS)).mono ?_
 rintro e w2 hN
 cases hg:getU l k with
 | none =>
  obtain ⟨p,rfl⟩:=hN.2.2 hg
  have HG:=M hN.1
  have HT:Hid (rdF o l k = none):=(U HF).trans (by simp [hg])
  clear hN hg
  go_wp2_with fail
  exact ⟨rfl,fdEnd_fail (U HG) (U HT) _⟩
 | some x =>
  obtain ⟨u,n⟩:=x
  obtain ⟨rfl,hrn⟩:=hN.2.1 u n hg
  have HG:=M hN.1
  have bC:=M hrn
  have HN:=M (getU_le 10 0 0 l k u n hg).1
  have HT:Hid (rdF o l k = some (H (unz u),n)):=(U HF).trans (by simp [hg])
  clear hN hrn hg
  have oK:Bx w2 hk vs:=cE (U HX) ((U HG).block hk (by
   obtain ⟨y,hy⟩:=Option.isSome_iff_exists.1 ((U HX).t 0 (by omega)).1
   exact yL W _ hy) (by simp; omega))
  have c0:=zb oK o (yI kl)
  have f0:=zd oK o kl
  clear oK
  generalize unz u = z at *
  go_wp2_with fail
  go_end0
  exact fdEnd_done (U HS) (U HX) (U HG) hE (U HT) (U HN) (U bC) kl
theorem readPrice_any (wb:World) (R hk:Nat) (v:Value) (l:List Int) (k:Nat) (vs:List Value) (W:World) (hs:RSr wb R v l k W) (hx:Bx W hk vs) (hE:R < hk) (hv:vs.length = 14) :
  Calls Tryz.prog 132 #[.pointer (some ⟨R,0,none⟩),.pointer (some ⟨hk,0,none⟩)] W fun e w'=>FdEnd wb R hk v l 7 vs W (rdF 7 l k) e w':=by
 have kl:7 < vs.length:=by omega
 have HS:=M hs
 have HX:=M hx
 have HV:=M hv
 have hsf:=sfl
 clear hs hx hv
 go_enter Tryz.func132,Tryz.ntmps132
 go_wp2_with fail
 refine (float_rs (U HS)).mono ?_
 rintro e w2 hN
 cases hg:dC l k with
 | none =>
  obtain ⟨p,rfl⟩:=hN.2.2 hg
  have HG:=M hN.1
  have HT:Hid (rdF 7 l k = none):=by show rdF 7 l k = none; simp [rdF,hg]
  clear hN hg
  go_wp2_with fail
  exact ⟨rfl,fdEnd_fail (U HG) (U HT) _⟩
 | some x =>
  obtain ⟨u,n⟩:=x
  obtain ⟨rfl,hrn⟩:=hN.2.1 u n hg
  have HG:=M hN.1
  have bC:=M hrn
  have HN:=M (floatA_le hg).1
  have HT:Hid (rdF 7 l k = some (yj u,n)):=by show rdF 7 l k = _; simp [rdF,hg]
  clear hN hrn hg
  have oK:Bx w2 hk vs:=cE (U HX) ((U HG).block hk (by
   obtain ⟨y,hy⟩:=Option.isSome_iff_exists.1 ((U HX).t 0 (by omega)).1
   exact yL W _ hy) (by simp; omega))
  have c0:=zb oK 7 (yI kl)
  have f0:=zd oK 7 kl
  clear oK
  go_wp2_with fail
  go_end0
  exact fdEnd_done (U HS) (U HX) (U HG) hE (U HT) (U HN) (U bC) kl
theorem readTag_any (wb:World) (R hk:Nat) (v:Value) (l:List Int) (k:Nat) (vs:List Value) (W:World) (hs:RSr wb R v l k W) (hx:Bx W hk vs) (hE:R < hk) (hv:vs.length = 14) :
  Calls Tryz.prog 134 #[.pointer (some ⟨R,0,none⟩),.pointer (some ⟨hk,0,none⟩)] W fun e w'=>FdEnd wb R hk v l 8 vs W (rdF 8 l k) e w':=by
 have kl:8 < vs.length:=by omega
 have HS:=M hs
 have HX:=M hx
 have HV:=M hv
 
 clear hs hx hv
 go_enter Tryz.func134,Tryz.ntmps134
 go_wp2_with fail
 refine (text_rs (U HS)).mono ?_
 rintro e w2 hN
 cases hg:textA l k with
 | none =>
  obtain ⟨p,rfl⟩:=hN.2.2 hg
  have HG:=M hN.1
  have HT:Hid (rdF 8 l k = none):=by show rdF 8 l k = none; simp [rdF,hg]
  clear hN hg
  go_wp2_with fail
  exact ⟨rfl,fdEnd_fail (U HG) (U HT) _⟩
 | some x =>
  obtain ⟨u,n⟩:=x
  obtain ⟨rfl,hrn⟩:=hN.2.1 u n hg
  have HG:=M hN.1
  have bC:=M hrn
  have HN:=M (textA_le hg).1
  have HT:Hid (rdF 8 l k = some (yk u,n)):=by show rdF 8 l k = _; simp [rdF,hg]
  clear hN hrn hg
  have oK:Bx w2 hk vs:=cE (U HX) ((U HG).block hk (by
   obtain ⟨y,hy⟩:=Option.isSome_iff_exists.1 ((U HX).t 0 (by omega)).1
   exact yL W _ hy) (by simp; omega))
  have c0:=zb oK 8 (yI kl)
  have f0:=zd oK 8 kl
  clear oK
  go_wp2_with fail
  go_end0
  exact fdEnd_done (U HS) (U HX) (U HG) hE (U HT) (U HN) (U bC) kl
theorem readField_any (wb w0:World) (hR R hk o:Nat) (c:Fc) (v:Value) (l:List Int) (k:Nat) (vs:List Value) (W:World) (hs:RSr wb R v l k W) (hx:Bx W hk vs) (hE:R < hk) (hv:vs.length = 14) (Y:o = 7 ∨ o = 8 ∨ plcO o = true) (hf:FF W hR o c) (hF:R < hR) :
  Calls Tryz.prog c.n2 (#[.pointer (some ⟨R,0,none⟩),.pointer (some ⟨hk,0,none⟩)] ++ c.l) W fun e w'=>FdEnd wb R hk v l o vs W (rdF o l k) e w':=by
 unfold FF at hf
 rcases Y with rfl | rfl | Y
 ·rw [if_pos rfl] at hf
  subst hf
  exact readPrice_any wb R hk v l k vs W hs hx hE hv
 ·rw [if_neg (by decide),if_pos rfl] at hf
  subst hf
  exact readTag_any wb R hk v l k vs W hs hx hE hv
 ·rw [if_neg (by intro e; subst e; simp [plcO] at Y),if_neg (by intro e; subst e; simp [plcO] at Y)] at hf
  obtain ⟨b,rfl,Q,D,X⟩:=hf
  exact readNum_any wb R hk b o v l k vs W hs hx hE Y hv (by omega) X
theorem field_enter (hR o:Nat) (c:Fc) (W:World) (hf:FF W hR o c) (args:Array Value) (V:World):(callFunc c.n2 args).run Tryz.prog V = .ok (.enter c.n2 args) V∧(callFunc c.n1 args).run Tryz.prog V = .ok (.enter c.n1 args) V:=by
 unfold FF at hf
 split at hf
 ·subst hf; exact ⟨by kernel_rfl,by kernel_rfl⟩
 ·split at hf
  ·subst hf; exact ⟨by kernel_rfl,by kernel_rfl⟩
  ·obtain ⟨b,rfl,_⟩:=hf; exact ⟨by kernel_rfl,by kernel_rfl⟩
def Ev.put (e:Ev) (o:Nat) (x:Value):Ev:=match o,x with
 | 1,.int _ z=>{ e with cmd:={ e.cmd with k:=z } }
 | 2,.int _ z=>{ e with cmd:={ e.cmd with s:=z } }
 | 3,.int _ z=>{ e with cmd:={ e.cmd with t:=z } }
 | 4,.int _ z=>{ e with cmd:={ e.cmd with l:=z } }
 | 5,.int _ z=>{ e with cmd:={ e.cmd with q:=z } }
 | 6,.int _ z=>{ e with cmd:={ e.cmd with i:=z } }
 | 7,.float _ p=>{ e with cmd:={ e.cmd with p:=p } }
 | 8,.string s=>{ e with cmd:={ e.cmd with g:=s } }
 | 9,.int _ z=>{ e with id:=z }
 | 10,.int _ z=>{ e with other:=z }
 | 11,.int _ z=>{ e with qty:=z }
 | 12,.int _ z=>{ e with price:=z }
 | 13,.int _ z=>{ e with reason:=z }
 | _,_=>e
def TyO (o:Nat) (x:Value):Prop:=if o = 7 then ∃ p,x = yj p else if o = 8 then ∃ s,x = yk s else ∃ z,x = H z
def EvO (o:Nat):Prop:=o = 7 ∨ o = 8 ∨ plcO o = true
theorem evs_put {o:Nat} {x:Value} (e:Ev) (Y:EvO o) (hx:TyO o x):e.vs.set o x = (e.put o x).vs:=by
 unfold EvO at Y
 unfold TyO at hx
 rcases (show o = 7 ∨ o = 8 ∨ o = 1 ∨ o = 2 ∨ o = 3 ∨ o = 4 ∨ o = 5 ∨ o = 6 ∨ o = 9 ∨ o = 10 ∨ o = 11 ∨ o = 12 ∨ o = 13 by simp [plcO] at Y; omega) with rfl | rfl | rfl | rfl | rfl | rfl | rfl | rfl | rfl | rfl | rfl | rfl | rfl
 all_goals
  obtain ⟨z,rfl⟩:=hx
  rfl
theorem rdF_ty {o k n:Nat} {l:List Int} {x:Value} (h:rdF o l k = some (x,n)):TyO o x:=by
 unfold rdF at h
 unfold TyO
 split at h
 ·rw [if_pos ‹_›]
  obtain ⟨⟨a,b⟩,Q,D⟩:=Option.map_eq_some_iff.1 h
  cases D; exact ⟨_,rfl⟩
 ·rw [if_neg ‹_›]
  split at h
  ·rw [if_pos ‹_›]
   obtain ⟨⟨a,b⟩,Q,D⟩:=Option.map_eq_some_iff.1 h
   cases D; exact ⟨_,rfl⟩
  ·rw [if_neg ‹_›]
   obtain ⟨⟨a,b⟩,Q,D⟩:=Option.map_eq_some_iff.1 h
   cases D; exact ⟨_,rfl⟩
def rdEs:List Nat→Ev→List Int→Nat→Option (Ev × Nat)
 | [],e,_,k=>some (e,k)
 | o :: os,e,l,k=>match rdF o l k with | none=>none | some (x,n)=>rdEs os (e.put o x) l n
theorem rdEs_none {o k:Nat} {os:List Nat} {e:Ev} {l:List Int} (h:rdF o l k = none):rdEs (o :: os) e l k = none:=by rw [rdEs,h]
theorem rdEs_some {o k n:Nat} {os:List Nat} {e:Ev} {l:List Int} {x:Value} (h:rdF o l k = some (x,n)):rdEs (o :: os) e l k = rdEs os (e.put o x) l n:=by rw [rdEs,h]
def ev0 (k:Int):Ev:=⟨k,⟨shC k,0,0,0,0,0,0,⟨#[]⟩⟩,0,0,0,0,0⟩
def evA (l:List Int) (k:Nat):Option (Ev × Nat) :=
 if l.length ≤ k then none else if shF (l.getD k 0) = [] then none else rdEs (shF (l.getD k 0)) (ev0 (l.getD k 0)) l (k + 1)
theorem evA_end {l:List Int} {k:Nat} (h:l.length ≤ k):evA l k = none:=if_pos h
theorem evA_no {l:List Int} {k:Nat} (h:k < l.length) (Q:shF (l.getD k 0) = []):evA l k = none:=by unfold evA; rw [if_neg (by omega),if_pos Q]
theorem evA_yes {l:List Int} {k:Nat} (h:k < l.length) (Q:shF (l.getD k 0) ≠ []):evA l k = rdEs (shF (l.getD k 0)) (ev0 (l.getD k 0)) l (k + 1):=by unfold evA; rw [if_neg (by omega),if_neg Q]
theorem shF_evO (k:Int):∀ o ∈ shF k,EvO o:=by
 intro o Y
 unfold shF at Y
 repeat' split at Y
 all_goals
  simp only [List.mem_cons,List.not_mem_nil,or_false] at Y
  try (rcases Y with rfl | rfl | rfl | rfl | rfl | rfl | rfl | rfl | rfl)
  try (rcases Y with rfl | rfl | rfl | rfl | rfl | rfl | rfl)
  try (rcases Y with rfl | rfl | rfl | rfl)
  try (rcases Y with rfl | rfl)
  try subst Y
  all_goals first | exact .inl rfl | exact .inr (.inl rfl) | exact .inr (.inr rfl) | exact Y.elim
theorem set14 (W:World) (b:Nat) (v0 v1 v2 v3 v4 v5 v6 v7 v8 v9 v10 v11 v12 v13:Value):((((((((((((((W.setCell ⟨b,0,none⟩ v0).setCell ⟨b,1,none⟩ v1).setCell ⟨b,2,none⟩ v2).setCell ⟨b,3,none⟩ v3).setCell ⟨b,4,none⟩ v4).setCell ⟨b,5,none⟩ v5).setCell ⟨b,6,none⟩ v6).setCell ⟨b,7,none⟩ v7).setCell ⟨b,8,none⟩ v8).setCell ⟨b,9,none⟩ v9).setCell ⟨b,10,none⟩ v10).setCell ⟨b,11,none⟩ v11).setCell ⟨b,12,none⟩ v12).setCell ⟨b,13,none⟩ v13) = W.setCells b 0 [v0,v1,v2,v3,v4,v5,v6,v7,v8,v9,v10,v11,v12,v13]:=by
 simp only [World.setCells]
theorem rdr_setCells {R b:Nat} {W:World} {v:Value} {n:Int} (us:List Value) (h:Rdr R W v n) (A:R ≠ b):Rdr R (W.setCells b 0 us) v n:=by
 have E:=bx_heap b R A us 0 W
 exact ⟨(yR (a:=⟨R,0,none⟩) E).trans h.1,(yR (a:=⟨R,1,none⟩) E).trans h.2,(World.frozen?_of_block (a:=⟨R,1,none⟩) E).trans h.3⟩
theorem gr_setCells {R b:Nat} {w W:World} (us:List Value) (h:w.grownBy W (some R)) (A:w.heap.size ≤ b):w.grownBy (W.setCells b 0 us) (some R):=by
 have Q:=zj b hU us 0 W (Below.refl b W)
 exact ⟨Q.os.trans h.os,Q.tape.trans h.tape,Q.output.trans h.output,yO h.size Q.size,fun i hi F=>by rw [bx_heap b i (by omega) us 0 W]; exact h.block i hi F⟩
def EvEnd (R:Nat) (v:Value) (w:World) (r:Option (Ev × Nat)) (e:Ending) (w':World):Prop :=
 w.grownBy w' (some R)∧(∀ x n,r = some (x,n)→e = .returned (evV x)∧Rdr R w' v n)∧(r = none→∃ p,e = .panicked (cX 3 p))
theorem evEnd_fail {R:Nat} {v:Value} {w w':World} {r:Option (Ev × Nat)} (hg:w.grownBy w' (some R)) (hr:r = none) (p:Int):EvEnd R v w r (.panicked (cX 3 p)) w' :=
 ⟨hg,(fun _ _ h=>by rw [hr] at h; cases h),fun _=>⟨p,rfl⟩⟩
theorem evEnd_done {R:Nat} {v:Value} {w w':World} {r:Option (Ev × Nat)} {x:Ev} {n:Nat} (hg:w.grownBy w' (some R)) (hr:r = some (x,n)) (h:Rdr R w' v n):EvEnd R v w r (.returned (evV x)) w' :=
 ⟨hg,(fun a b h'=>by rw [hr] at h'; cases h'; exact ⟨rfl,h⟩),(fun h'=>by rw [hr] at h'; cases h')⟩
theorem ffs_get {W:World} {B:Nat}:∀ {os:List Nat} {fs:List Fc},FFs W B os fs→os.length = fs.length∧∀ (i:Nat) (c:Fc),fs[i]? = some c→∃ o:Nat,os[i]? = some o∧FF W B o c
 | [],[],_=>⟨rfl,fun i c h=>by simp at h⟩
 | o :: os,c :: cs,h=>by
  have ih:=ffs_get h.2
  refine ⟨by simp [ih.1],fun i d hd=>?_⟩
  cases i with
  | zero=>simp at hd; subst hd; exact ⟨o,rfl,h.1⟩
  | succ i=>simpa using ih.2 i d (by simpa using hd)
 | [],c :: cs,h=>h.elim
 | o :: os,[],h=>h.elim
end Go.Proofs.YthhkapcbocgcoaaGreatDoor
