package impl

// FldP is the number by which all numbers are taken.
const FldP = 101

// Bounds of what is counted beside the numbers. fldMaxCount is below FldP, so that no factor of FldFall but 0 itself is 0 by FldP, and FldChoose may divide.
const (
	fldMaxPower = 1000
	fldMaxCount = 60
)

// fldNum is a number of the field, in 0..FldP-1; its methods take that for granted, so what comes from outside is asked by FldOk first.
type fldNum int

func (a fldNum) plus(b fldNum) fldNum {
	return (a + b) % FldP
}

func (a fldNum) negative() fldNum {
	return (FldP - a) % FldP
}

func (a fldNum) times(b fldNum) fldNum {
	return a * b % FldP
}

func (a fldNum) power(n int) fldNum {
	result := fldNum(1)
	for n > 0 {
		if n%2 == 1 {
			result = result.times(a)
		}
		a = a.times(a)
		n /= 2
	}
	return result
}

// inverse leans on power FldP-1 being 1 of all but 0; so it needs no case of its own for 0, of which it is 0.
func (a fldNum) inverse() fldNum {
	return a.power(FldP - 2)
}

// fall ends at the factor 0, so that no number below 0 is ever made.
func (a fldNum) fall(k int) fldNum {
	result := fldNum(1)
	for range k {
		if a == 0 {
			return 0
		}
		result = result.times(a)
		a--
	}
	return result
}

func fldCountOk(n int) bool {
	return n >= 0 && n <= fldMaxCount
}

// FldOk says whether a number is one of the field.
func FldOk(a int) bool {
	return a >= 0 && a < FldP
}

// FldAdd is the sum of two.
func FldAdd(a int, b int) int {
	if !FldOk(a) || !FldOk(b) {
		return 0
	}
	return int(fldNum(a).plus(fldNum(b)))
}

// FldNeg is what, added to one, is 0.
func FldNeg(a int) int {
	if !FldOk(a) {
		return 0
	}
	return int(fldNum(a).negative())
}

// FldMul is the product of two.
func FldMul(a int, b int) int {
	if !FldOk(a) || !FldOk(b) {
		return 0
	}
	return int(fldNum(a).times(fldNum(b)))
}

// FldPow is a product of one with itself, n factors.
func FldPow(a int, n int) int {
	if !FldOk(a) || n < 0 || n > fldMaxPower {
		return 0
	}
	return int(fldNum(a).power(n))
}

// FldInv is what, times one, is 1; 0 of 0.
func FldInv(a int) int {
	if !FldOk(a) {
		return 0
	}
	return int(fldNum(a).inverse())
}

// FldFall is the product of n, n less 1, and so on, k factors.
func FldFall(n int, k int) int {
	if !fldCountOk(n) || !fldCountOk(k) {
		return 0
	}
	return int(fldNum(n).fall(k))
}

// FldChoose is in how many ways k of n can be chosen.
func FldChoose(n int, k int) int {
	if !fldCountOk(n) || k < 0 || k > n {
		return 0
	}
	orders := fldNum(k).fall(k)
	return int(fldNum(n).fall(k).times(orders.inverse()))
}

// FldSub is one less another one.
func FldSub(a int, b int) int {
	// FldNeg of what is no number is 0, which would leave a: so both are asked here.
	if !FldOk(a) || !FldOk(b) {
		return 0
	}
	return int(fldNum(a).plus(fldNum(b).negative()))
}

// FldDiv is what, times b, is a; 0, if b is 0.
func FldDiv(a int, b int) int {
	if !FldOk(a) || !FldOk(b) {
		return 0
	}
	return int(fldNum(a).times(fldNum(b).inverse()))
}
