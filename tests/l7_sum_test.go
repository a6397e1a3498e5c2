package tests

import (
	"testing"

	"loop.example/selvedge/impl"
)

// times is the same operator so often.
func times(n int, p []impl.PolTerm) [][]impl.PolTerm {
	var list [][]impl.PolTerm
	for range n {
		list = append(list, p)
	}
	return list
}

// P36
func TestLstOk(t *testing.T) {
	wantOk := func(list [][]impl.PolTerm, want bool, name string) {
		t.Helper()
		if impl.LstOk(list) != want {
			t.Fatalf("LstOk of %s is %v", name, !want)
		}
	}
	wantOk(nil, true, "nil")
	wantOk([][]impl.PolTerm{}, true, "the empty list")
	full := manyTerms(impl.PolMax)
	for n := range 3 * impl.LstMax {
		for _, p := range [][]impl.PolTerm{op(t, "1"), op(t, "100"), op(t, "x15y15d15e15"), op(t, "2xd+y+100"), full} {
			wantOk(times(n, p), n <= impl.LstMax, "so many operators")
		}
		for place := range n {
			list := times(n, op(t, "d+1"))
			list[place] = op(t, "x")
			wantOk(list, n <= impl.LstMax, "several operators")
			for _, none := range [][]impl.PolTerm{nil, {}, full[:0]} {
				list[place] = none
				wantOk(list, false, "a list with 0 in it")
			}
			for name, bad := range badPols() {
				list[place] = bad
				wantOk(list, false, "a list with one with "+name)
			}
		}
	}
	d := dice(36)
	for range 300 {
		list := d.list(20, 3, 2)
		wantOk(list, len(list) <= impl.LstMax, listText(list))
	}
}

// products is what a sum of products came to, worked out without the program.
type products struct {
	sum     map[impl.MonMon]int
	most    int  // terms of the sum behind one of the products
	tooMuch bool // a product that is too much
}

func (p products) ok() bool {
	return !p.tooMuch && p.most <= impl.PolMax
}

// plainProducts sums the products of two lists that are as long, one by one.
func plainProducts(quots [][]impl.PolTerm, list [][]impl.PolTerm) products {
	var p products
	for place, quot := range quots {
		product := plainWays(quot, list[place])
		p.tooMuch = p.tooMuch || !product.ok()
		p.sum = numbersOf(plainSum(fromNumbers(p.sum), 1, fromNumbers(product.sum)))
		p.most = max(p.most, len(p.sum))
	}
	return p
}

// wantSum asks RedSum for what it is without the program, and tells that.
func wantSum(t *testing.T, quots [][]impl.PolTerm, list [][]impl.PolTerm) products {
	t.Helper()
	want := plainProducts(quots, list)
	got, ok := impl.RedSum(quots, list)
	if ok != want.ok() {
		t.Fatalf("RedSum of %s and %s is %v; it has %d terms on the way", listText(quots), listText(list), ok, want.most)
	}
	if ok {
		wantPol(t, got, fromNumbers(want.sum), "RedSum of "+listText(quots)+" and "+listText(list))
	} else {
		wantNothing(t, got, ok, "RedSum")
	}
	return want
}

// summed rolls two lists that are as long, 0 among both.
func (d *dice) summed(most int) ([][]impl.PolTerm, [][]impl.PolTerm) {
	var quots, list [][]impl.PolTerm
	for range d.roll(5) {
		quots, list = append(quots, d.pol(3, most)), append(list, d.pol(3, most))
	}
	return quots, list
}

func TestRedSumIsWhatItsProductsSay(t *testing.T) {
	tries(t, 71, 500, func(d *dice, most int) bool {
		quots, list := d.summed(most)
		return wantSum(t, quots, list).ok()
	})
}

// P40
func TestRedSumOneByOne(t *testing.T) {
	tries(t, 40, 500, func(d *dice, most int) bool {
		quots, list := d.summed(most)
		if len(quots) == 0 {
			return false
		}
		last := len(quots) - 1
		var all all
		product := all.of(impl.WylMul(quots[last], list[last]))
		sum := all.of(impl.PolAdd(all.of(impl.RedSum(quots[:last], list[:last])), product))
		got, ok := impl.RedSum(quots, list)
		if ok == all.no {
			t.Fatalf("RedSum of %s and %s is %v", listText(quots), listText(list), ok)
		}
		wantPol(t, got, whenever(ok, sum), "RedSum and its last product")
		return ok
	})
}

// whenever is an operator if something is true, else nothing.
func whenever(ok bool, p []impl.PolTerm) []impl.PolTerm {
	if !ok {
		return nil
	}
	return p
}

func TestRedSumByHand(t *testing.T) {
	for _, c := range []struct {
		quots, list []string
		want        string
	}{
		{nil, nil, "0"}, {[]string{"1"}, []string{"x"}, "x"}, {[]string{"x"}, []string{"1"}, "x"},
		// Each of quots stands on the left.
		{[]string{"d"}, []string{"x"}, "xd+1"}, {[]string{"x"}, []string{"d"}, "xd"}, {[]string{"xd+100", "0"}, []string{"xd", "d+1"}, "x2d2"},
		{[]string{"d", "x"}, []string{"x", "100d"}, "1"}, {[]string{"x", "d"}, []string{"100d", "x"}, "1"}, {[]string{"1", "100"}, []string{"d+x", "d+x"}, "0"},
		// 0 in either list adds nothing.
		{[]string{"0"}, []string{"x"}, "0"}, {[]string{"x"}, []string{"0"}, "0"}, {[]string{"0"}, []string{"0"}, "0"},
		{[]string{"0", "1", "0"}, []string{"x", "y", "d"}, "y"}, {[]string{"1", "0", "1"}, []string{"x", "y", "0"}, "x"}, {[]string{"0", "0", "2"}, []string{"x", "y", "d"}, "2d"},
	} {
		quots, list := ops(t, c.quots...), ops(t, c.list...)
		wantPol(t, must(t)(impl.RedSum(quots, list)), op(t, c.want), "RedSum of "+listText(quots)+" and "+listText(list))
		wantSum(t, quots, list)
	}
	for _, none := range [][][]impl.PolTerm{nil, {}} {
		wantPol(t, must(t)(impl.RedSum(none, nil)), nil, "RedSum of no lists")
		wantPol(t, must(t)(impl.RedSum(nil, none)), nil, "RedSum of no lists")
	}
}

func TestRedSumOfSoMany(t *testing.T) {
	for n := range 2 * impl.LstMax {
		for m := range 2 * impl.LstMax {
			for _, c := range []int{0, 3} {
				got, ok := impl.RedSum(times(n, impl.PolOf(c, impl.MonMon{})), times(m, op(t, "x")))
				if n != m || n > impl.LstMax {
					wantNothing(t, got, ok, "RedSum of lists that are not as long, or too long")
				} else {
					wantPol(t, must(t)(got, ok), impl.PolOf(c*n, impl.MonMon{X: 1}), "RedSum of so many")
				}
			}
		}
	}
}

// What is too much may be the first product, one amid them, or the last one.
func TestRedSumTooMuch(t *testing.T) {
	for _, c := range [][2]string{{"x", "x15"}, {"x15", "x"}, {"d8", "x8d8"}, {"y8+1", "y8+1"}, {"e", "e15"}, {"x9+x8", "x8+100x7"}} {
		for n := 1; n <= impl.LstMax; n++ {
			for place := range n {
				quots, list := times(n, op(t, "1")), times(n, op(t, "d+x"))
				if !wantSum(t, quots, list).ok() {
					t.Fatal("RedSum of small ones is false")
				}
				quots[place], list[place] = op(t, c[0]), op(t, c[1])
				if wantSum(t, quots, list).ok() {
					t.Fatalf("RedSum with %s times %s is true", c[0], c[1])
				}
			}
		}
	}
}

// A product with more than PolMax on its way is too much, wherever it stands, though it comes to less.
func TestRedSumProductsOnTheWay(t *testing.T) {
	less := op(t, "x+100")
	for terms, ok := range map[int]bool{399: true, 400: false} {
		great := wayUp(terms, 14)
		for _, quots := range [][][]impl.PolTerm{{less, op(t, "1")}, {op(t, "1"), less}} {
			list := [][]impl.PolTerm{great, op(t, "d")}
			if len(quots[0]) == 1 {
				list = [][]impl.PolTerm{op(t, "d"), great}
			}
			if wantSum(t, quots, list).ok() != ok {
				t.Fatalf("RedSum with %d terms on the way is not %v", terms+1, ok)
			}
		}
	}
}

func TestRedSumAtPolMax(t *testing.T) {
	half, more := manyTerms(200), behind(200, 201)
	rest, e := behind(200, 200), op(t, "e")
	one, minus := op(t, "1"), op(t, "100")
	for _, c := range []struct {
		quots, list [][]impl.PolTerm
		most        int
		terms       int
	}{
		{[][]impl.PolTerm{one}, [][]impl.PolTerm{manyTerms(400)}, 400, 400},
		{[][]impl.PolTerm{one, one}, [][]impl.PolTerm{half, rest}, 400, 400},
		{[][]impl.PolTerm{one, one}, [][]impl.PolTerm{half, more}, 401, 401},
		{[][]impl.PolTerm{one, one}, [][]impl.PolTerm{more, half}, 401, 401},
		// Just at the last one, or at the first two: it may come to less, or to 0.
		{[][]impl.PolTerm{one, one, one}, [][]impl.PolTerm{half, rest, e}, 401, 401},
		{[][]impl.PolTerm{one, one, minus}, [][]impl.PolTerm{half, rest, half}, 400, 200},
		{[][]impl.PolTerm{one, one, minus}, [][]impl.PolTerm{half, more, half}, 401, 201},
		{[][]impl.PolTerm{one, minus, one}, [][]impl.PolTerm{half, half, more}, 201, 201},
		{[][]impl.PolTerm{one, one, one, minus}, [][]impl.PolTerm{half, rest, e, e}, 401, 400},
		{[][]impl.PolTerm{one, minus, one, one}, [][]impl.PolTerm{e, e, half, rest}, 400, 400},
		{[][]impl.PolTerm{one, one, minus, minus}, [][]impl.PolTerm{half, more, more, half}, 401, 0},
		{[][]impl.PolTerm{one, minus, one, minus}, [][]impl.PolTerm{half, half, more, more}, 201, 0},
	} {
		want := wantSum(t, c.quots, c.list)
		if want.ok() != (c.most <= impl.PolMax) || want.most != c.most || len(want.sum) != c.terms {
			t.Fatalf("RedSum comes to %d terms, with %d on the way", len(want.sum), want.most)
		}
	}
}
