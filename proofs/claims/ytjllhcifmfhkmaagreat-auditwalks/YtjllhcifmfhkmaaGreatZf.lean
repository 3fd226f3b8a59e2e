/- Part of a proof. -/
import Derived.Test.YtjllhcifmfhkmaaGreatZb
import Derived.Laws.CopyOwn
import Derived.Deep.RegionHeld3
namespace Go.Proofs.YtjllhcifmfhkmaaGreat.Oct
open Go.RowKit
abbrev pgV (p:Pg) (ba:Option Addr) (bc:Nat):Value:=.agg #[.int .i64 p.kind,.int .i64 p.level,.int .i64 p.count,.slice ba p.body.length bc]
def spl (zs bd:List Int):List Int:=zs.take 8++(bd++zs.drop (8+bd.length))
def st0:List Int:=List.replicate 256 0
def st1 (p:Pg):List Int:=putR st0 4 1 p.kind
def st2 (p:Pg):List Int:=putR (st1 p) 5 1 p.level
def st3 (p:Pg):List Int:=putR (st2 p) 6 2 p.count
def st4 (p:Pg):List Int:=spl (st3 p) p.body
def st5 (p:Pg):List Int:=putR (st4 p) 0 4 (crc ((st4 p).drop 4))
def st (p:Pg) (k:Nat):List Int:=match k with
 |0=>st0
 |1=>st1 p
 |2=>st2 p
 |3=>st3 p
 |4=>st4 p
 |_=>st5 p
def nums (n X:Nat):List Int:=putL (List.replicate n 0) 0 n X
theorem nums_len (n X:Nat):(nums n X).length=n:=by unfold nums;rw [putL_len,List.length_replicate]
theorem nums_bys (n X:Nat):Bys (nums n X):=putL_bys (fun z h=>by have:=List.eq_of_mem_replicate h;omega) _ _ _
theorem putL_at (zs:List Int) (p n X i:Nat) (hi:i<zs.length):(putL zs p n X).getD i 0=if p≤i∧i<p+n then dgt X p n i else zs.getD i 0:=by
 unfold putL;rw [lay_at _ _ _ _ hi];simp only [decide_eq_true_eq]
theorem nums_at (n X j:Nat) (hj:j<n):(nums n X).getD j 0=dgt X 0 n j:=by
 unfold nums;rw [putL_at _ _ _ _ _ (by rw [List.length_replicate];exact hj),if_pos (by omega)]
theorem num_mid (A Z B:List Int) (k:Nat) (hk:k≤Z.length):num (A++(Z++B)) A.length k=num Z 0 k:=by
 induction k with
 |zero=>rfl
 |succ k ih=>
  rw [num_succ,num_succ,ih (by omega),app_at,if_neg (by omega),app_at,if_pos (by omega)];rw [show A.length+k-A.length=0+k by omega]
theorem num_nums (n X:Nat) (h:X<256^n):num (nums n X) 0 n=(X:Int):=num_put _ 0 n X (by rw [List.length_replicate];omega) h
theorem dgt_num {zs:List Int} (h:Bys zs) (p:Nat):∀n j,j<n→dgt (num zs p n).toNat 0 n j=zs.getD (p+j) 0:=by
 intro n
 induction n with
 |zero=>intro j hj;omega
 |succ n ih=>
  intro j hj;have hb:=num_bd h p n;have hz:=h.at (p+n);have e:(num zs p (n+1)).toNat=(num zs p n).toNat*256+(zs.getD (p+n) 0).toNat:=by rw [num_succ];omega
  rw [e];by_cases hjn:j=n
  ·subst hjn;unfold dgt;rw [show 0+(j+1)-1-j=0 by omega];simp only [Nat.pow_zero,Nat.div_one];omega
  ·rw [←ih j (by omega)];unfold dgt
   have e3:((num zs p n).toNat*256+(zs.getD (p+n) 0).toNat)/256^((0+n-1-j)+1)=(num zs p n).toNat/256^(0+n-1-j):=by
    rw [Nat.pow_succ',←Nat.div_div_eq_div_mul]
    congr 1
    omega
   rw [show 0+(n+1)-1-j=(0+n-1-j)+1 by omega,e3]
theorem nums_num {zs:List Int} (h:Bys zs):nums zs.length (num zs 0 zs.length).toNat=zs:=by
 refine row_ext (nums_len _ _) fun i hi=>?_
 rw [nums_len] at hi;rw [nums_at _ _ _ hi,dgt_num h 0 _ _ hi,Nat.zero_add]
def tailP (p:Pg):List Int:=nums 1 p.kind.toNat++nums 1 p.level.toNat++nums 2 p.count.toNat++p.body++List.replicate (248-p.body.length) 0
def sealL (p:Pg):List Int:=nums 4 (crc (tailP p)).toNat++tailP p
def argP (p:Pg):Bool:=decide ((1≤p.kind∧p.kind≤5)∧(0≤p.level∧p.level≤255)∧(0≤p.count∧p.count≤65535))
def sealE (p:Pg):Int:=if argP p=true then (if p.body.length≤248 then 0 else 3) else 1
def sealZ (p:Pg):List Int:=if sealE p=0 then sealL p else []
theorem tail_bys {p:Pg} (h:Bys p.body):Bys (tailP p):=(((nums_bys _ _).app (nums_bys _ _)).app (nums_bys _ _)).app h |>.app (bys_rep _)
theorem tail_len {p:Pg} (h:p.body.length≤248):(tailP p).length=252:=by simp [tailP,nums_len];omega
theorem seal_bys {p:Pg} (h:Bys p.body):Bys (sealL p):=(nums_bys _ _).app (tail_bys h)
theorem seal_len {p:Pg} (h:p.body.length≤248):(sealL p).length=256:=by simp [sealL,nums_len,tail_len h]
theorem argP_out {p:Pg} (h:argP p=true):(1≤p.kind∧p.kind≤5)∧(0≤p.level∧p.level≤255)∧(0≤p.count∧p.count≤65535):=of_decide_eq_true h
theorem sealE_zero {p:Pg} (h:sealE p=0):argP p=true∧p.body.length≤248:=by
 unfold sealE at h;by_cases ha:argP p=true
 ·rw [if_pos ha] at h;by_cases hl:p.body.length≤248
  ·exact ⟨ha,hl⟩
  ·rw [if_neg hl] at h;omega
 ·rw [if_neg ha] at h;omega
theorem ins_yes {len p n:Nat} (h1:1≤n) (h8:n≤8) (h:p+n≤len):insB len p n=true:=by simp [insB];omega
theorem fit1 (x:Int):fitB 1 x=decide (0≤x∧x≤255):=by
 unfold fitB;rw [Bool.eq_iff_iff];simp only [decide_eq_true_eq,show (1:Int).toNat=1 from rfl,Int.pow_succ,Int.pow_zero];omega
theorem fit2 (x:Int):fitB 2 x=decide (0≤x∧x≤65535):=by
 unfold fitB;rw [Bool.eq_iff_iff];simp only [decide_eq_true_eq,show (2:Int).toNat=2 from rfl,Int.pow_succ,Int.pow_zero];omega
theorem fit4 (x:Int):fitB 4 x=decide (0≤x∧x≤4294967295):=by
 unfold fitB;rw [Bool.eq_iff_iff];simp only [decide_eq_true_eq,show (4:Int).toNat=4 from rfl,Int.pow_succ,Int.pow_zero];omega
end Go.Proofs.YtjllhcifmfhkmaaGreat.Oct
