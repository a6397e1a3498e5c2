package tests

import (
	"math"
	"math/big"
	"testing"

	"loop.example/selvedge/impl"
)

// Bounds that the document writes out as numbers, not as constants.
const (
	maxPower = 1000
	maxCount = 60
)

// noNumbers are some that are no numbers of the field, near its ends and far away, also where sums and products of ints wrap round.
var noNumbers = []int{
	-1, -2, -100, -101, -102, -1000, math.MinInt32, math.MinInt + 1, math.MinInt,
	impl.FldP, impl.FldP + 1, 2 * impl.FldP, 1000, math.MaxInt32, math.MaxInt - 1, math.MaxInt,
}

// someNumbers are enough to try with all wrong inputs beside them, the ends of the field among them.
var someNumbers = []int{0, 1, 2, 50, 51, 99, impl.FldP - 1}

// bigMod is a whole number taken by FldP, worked out without the program.
func bigMod(n *big.Int) int {
	return int(new(big.Int).Mod(n, big.NewInt(impl.FldP)).Int64())
}

// bigFall is n * (n - 1) and so on, k factors, whole.
func bigFall(n int, k int) *big.Int {
	product := big.NewInt(1)
	for i := range k {
		product.Mul(product, big.NewInt(int64(n-i)))
	}
	return product
}

func wantInt(t *testing.T, got int, want int, name string, args ...int) {
	t.Helper()
	if got != want {
		t.Fatalf("%s%v is %d, not %d", name, args, got, want)
	}
}

func TestFldTable(t *testing.T) {
	if impl.FldP != 101 {
		t.Fatalf("FldP is %d", impl.FldP)
	}
}

func TestFldOk(t *testing.T) {
	for a := range impl.FldP {
		if !impl.FldOk(a) {
			t.Fatalf("FldOk(%d) is false", a)
		}
	}
	for _, a := range noNumbers {
		if impl.FldOk(a) {
			t.Fatalf("FldOk(%d) is true", a)
		}
	}
}

func TestFldAgainstWholeNumbers(t *testing.T) {
	for a := range impl.FldP {
		wantInt(t, impl.FldNeg(a), (impl.FldP-a)%impl.FldP, "FldNeg", a)
		for b := range impl.FldP {
			wantInt(t, impl.FldAdd(a, b), (a+b)%impl.FldP, "FldAdd", a, b)
			wantInt(t, impl.FldSub(a, b), (a-b+impl.FldP)%impl.FldP, "FldSub", a, b)
			wantInt(t, impl.FldMul(a, b), a*b%impl.FldP, "FldMul", a, b)
		}
	}
}

// P73
func TestFldAddOrderAndBrackets(t *testing.T) {
	for a := range impl.FldP {
		wantInt(t, impl.FldAdd(a, 0), a, "FldAdd", a, 0)
		wantInt(t, impl.FldAdd(a, impl.FldNeg(a)), 0, "FldAdd with FldNeg", a)
		if !impl.FldOk(impl.FldNeg(a)) {
			t.Fatalf("FldNeg(%d) is no number", a)
		}
		for b := range impl.FldP {
			ab := impl.FldAdd(a, b)
			wantInt(t, impl.FldAdd(b, a), ab, "FldAdd", b, a)
			for c := range impl.FldP {
				wantInt(t, impl.FldAdd(a, impl.FldAdd(b, c)), impl.FldAdd(ab, c), "FldAdd brackets", a, b, c)
			}
		}
	}
}

// P74
func TestFldMulOrderBracketsAndSums(t *testing.T) {
	for a := range impl.FldP {
		wantInt(t, impl.FldMul(a, 1), a, "FldMul", a, 1)
		for b := range impl.FldP {
			ab := impl.FldMul(a, b)
			wantInt(t, impl.FldMul(b, a), ab, "FldMul", b, a)
			if (ab == 0) != (a == 0 || b == 0) {
				t.Fatalf("FldMul(%d, %d) is %d", a, b, ab)
			}
			for c := range impl.FldP {
				wantInt(t, impl.FldMul(a, impl.FldMul(b, c)), impl.FldMul(ab, c), "FldMul brackets", a, b, c)
				wantInt(t, impl.FldMul(a, impl.FldAdd(b, c)), impl.FldAdd(ab, impl.FldMul(a, c)), "FldMul of a sum", a, b, c)
			}
		}
	}
}

// P75
func TestFldSubAndAdd(t *testing.T) {
	for a := range impl.FldP {
		wantInt(t, impl.FldSub(a, a), 0, "FldSub", a, a)
		wantInt(t, impl.FldSub(0, a), impl.FldNeg(a), "FldSub", 0, a)
		for b := range impl.FldP {
			wantInt(t, impl.FldAdd(impl.FldSub(a, b), b), a, "FldAdd of FldSub", a, b)
		}
	}
}

// P76
func TestFldDivAndInv(t *testing.T) {
	wantInt(t, impl.FldInv(0), 0, "FldInv", 0)
	wantInt(t, impl.FldInv(1), 1, "FldInv", 1)
	wantInt(t, impl.FldInv(impl.FldP-1), impl.FldP-1, "FldInv", impl.FldP-1)
	for a := range impl.FldP {
		wantInt(t, impl.FldDiv(a, 0), 0, "FldDiv", a, 0)
		for b := 1; b < impl.FldP; b++ {
			wantInt(t, impl.FldMul(impl.FldDiv(a, b), b), a, "FldMul of FldDiv", a, b)
			wantInt(t, impl.FldDiv(a, b), impl.FldMul(a, impl.FldInv(b)), "FldDiv", a, b)
		}
	}
	for b := 1; b < impl.FldP; b++ {
		wantInt(t, impl.FldMul(impl.FldInv(b), b), 1, "FldMul of FldInv", b)
	}
}

// P77
func TestFldPowTogether(t *testing.T) {
	for a := range impl.FldP {
		for n := 0; n <= maxPower; n += 37 {
			for m := 0; n+m <= maxPower; m++ {
				both := impl.FldMul(impl.FldPow(a, n), impl.FldPow(a, m))
				wantInt(t, impl.FldPow(a, n+m), both, "FldPow together", a, n, m)
			}
		}
	}
	for a := 1; a < impl.FldP; a++ {
		wantInt(t, impl.FldPow(a, 100), 1, "FldPow", a, 100)
		wantInt(t, impl.FldPow(a, maxPower), 1, "FldPow", a, maxPower)
	}
	wantInt(t, impl.FldPow(0, 100), 0, "FldPow", 0, 100)
}

func TestFldPowStepByStep(t *testing.T) {
	for a := range impl.FldP {
		product := 1
		for n := 0; n <= maxPower; n++ {
			wantInt(t, impl.FldPow(a, n), product, "FldPow", a, n)
			product = product * a % impl.FldP
		}
	}
}

func TestFldPowEdges(t *testing.T) {
	wantInt(t, impl.FldPow(0, 0), 1, "FldPow", 0, 0)
	wantInt(t, impl.FldPow(0, 1), 0, "FldPow", 0, 1)
	wantInt(t, impl.FldPow(0, maxPower), 0, "FldPow", 0, maxPower)
	for a := range impl.FldP {
		wantInt(t, impl.FldPow(a, 0), 1, "FldPow", a, 0)
		for _, n := range []int{-1, -100, math.MinInt, maxPower + 1, 1100, 2000, math.MaxInt} {
			wantInt(t, impl.FldPow(a, n), 0, "FldPow", a, n)
		}
	}
}

// P78
func TestFldFallStep(t *testing.T) {
	for n := 0; n <= maxCount; n++ {
		for k := 0; k <= maxCount; k++ {
			got := impl.FldFall(n, k)
			wantInt(t, got, bigMod(bigFall(n, k)), "FldFall", n, k)
			if (got == 0) != (k > n) {
				t.Fatalf("FldFall(%d, %d) is %d", n, k, got)
			}
			if n > 0 && k > 0 {
				wantInt(t, got, impl.FldMul(n, impl.FldFall(n-1, k-1)), "FldFall", n, k)
			}
		}
	}
}

func TestFldFallEdges(t *testing.T) {
	for n := 0; n <= maxCount; n++ {
		wantInt(t, impl.FldFall(n, 0), 1, "FldFall", n, 0)
	}
	wantInt(t, impl.FldFall(0, 1), 0, "FldFall", 0, 1)
	wantInt(t, impl.FldFall(0, maxCount), 0, "FldFall", 0, maxCount)
	wantInt(t, impl.FldFall(maxCount, 1), maxCount, "FldFall", maxCount, 1)
	wantInt(t, impl.FldFall(maxCount-1, maxCount), 0, "FldFall", maxCount-1, maxCount)
	if impl.FldFall(maxCount, maxCount) == 0 {
		t.Fatal("FldFall(60, 60) is 0")
	}
}

// P79
func TestFldChooseStep(t *testing.T) {
	for n := 0; n <= maxCount; n++ {
		for k := 0; k <= n; k++ {
			got := impl.FldChoose(n, k)
			wantInt(t, got, bigMod(new(big.Int).Binomial(int64(n), int64(k))), "FldChoose", n, k)
			if n > 0 {
				sum := impl.FldAdd(impl.FldChoose(n-1, k), impl.FldChoose(n-1, k-1))
				wantInt(t, got, sum, "FldChoose", n, k)
			}
		}
	}
}

func TestFldChooseEdges(t *testing.T) {
	for n := 0; n <= maxCount; n++ {
		wantInt(t, impl.FldChoose(n, 0), 1, "FldChoose", n, 0)
		wantInt(t, impl.FldChoose(n, n), 1, "FldChoose", n, n)
		wantInt(t, impl.FldChoose(n, n+1), 0, "FldChoose", n, n+1)
		wantInt(t, impl.FldChoose(n, -1), 0, "FldChoose", n, -1)
	}
}

func TestFldWrongNumbers(t *testing.T) {
	for _, bad := range noNumbers {
		wantInt(t, impl.FldNeg(bad), 0, "FldNeg", bad)
		wantInt(t, impl.FldInv(bad), 0, "FldInv", bad)
		for _, n := range []int{math.MinInt, -1, 0, 1, 2, 100, maxPower, maxPower + 1, math.MaxInt} {
			wantInt(t, impl.FldPow(bad, n), 0, "FldPow", bad, n)
		}
		for _, other := range append(append([]int{}, someNumbers...), noNumbers...) {
			wantInt(t, impl.FldAdd(bad, other), 0, "FldAdd", bad, other)
			wantInt(t, impl.FldAdd(other, bad), 0, "FldAdd", other, bad)
			wantInt(t, impl.FldSub(bad, other), 0, "FldSub", bad, other)
			wantInt(t, impl.FldSub(other, bad), 0, "FldSub", other, bad)
			wantInt(t, impl.FldMul(bad, other), 0, "FldMul", bad, other)
			wantInt(t, impl.FldMul(other, bad), 0, "FldMul", other, bad)
			wantInt(t, impl.FldDiv(bad, other), 0, "FldDiv", bad, other)
			wantInt(t, impl.FldDiv(other, bad), 0, "FldDiv", other, bad)
		}
	}
}

func TestFldWrongCounts(t *testing.T) {
	wrong := append([]int{maxCount + 1, maxCount + 2, impl.FldP - 1}, noNumbers...)
	for _, bad := range wrong {
		for other := -1; other <= maxCount+1; other++ {
			wantInt(t, impl.FldFall(bad, other), 0, "FldFall", bad, other)
			wantInt(t, impl.FldFall(other, bad), 0, "FldFall", other, bad)
			wantInt(t, impl.FldChoose(bad, other), 0, "FldChoose", bad, other)
			wantInt(t, impl.FldChoose(other, bad), 0, "FldChoose", other, bad)
		}
		for _, other := range wrong {
			wantInt(t, impl.FldFall(bad, other), 0, "FldFall", bad, other)
			wantInt(t, impl.FldChoose(bad, other), 0, "FldChoose", bad, other)
		}
	}
}
