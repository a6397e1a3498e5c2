package tests

import (
	"math"
	"slices"
	"strings"
	"testing"

	"loop.example/selvedge/impl"
)

// badCounts are counts that no factor may have.
var badCounts = []int{-1, -15, -16, math.MinInt32, math.MinInt, math.MinInt + 1, 16, 17, 31, 32, 256, math.MaxInt32, math.MaxInt - 1, math.MaxInt}

// badOrders are none of the three.
var badOrders = []int{0, -1, -2, -3, 4, 5, 100, math.MinInt, math.MaxInt, math.MaxInt - 1}

// atPlace is a monomial with one of its four, by place, changed.
func atPlace(m impl.MonMon, place int, count int) impl.MonMon {
	*[]*int{&m.X, &m.Y, &m.D, &m.E}[place] = count
	return m
}

// badMons are monomials that are not ok: each of the four wrong beside all 0, all 1 and all MonMax.
func badMons() []impl.MonMon {
	beside := []impl.MonMon{{}, {X: 1, Y: 1, D: 1, E: 1}, {X: 15, Y: 15, D: 15, E: 15}}
	var bad []impl.MonMon
	for _, m := range beside {
		for place := range 4 {
			for _, count := range badCounts {
				bad = append(bad, atPlace(m, place, count))
			}
		}
	}
	return append(bad,
		impl.MonMon{X: math.MinInt, Y: math.MinInt, D: math.MinInt, E: math.MinInt},
		impl.MonMon{X: math.MaxInt, Y: math.MaxInt, D: math.MaxInt, E: math.MaxInt},
		impl.MonMon{X: math.MinInt, Y: math.MinInt, D: 0, E: 0},
		impl.MonMon{X: 16, Y: -1, D: 16, E: -1})
}

// gridMons are all monomials with counts of these.
func gridMons(counts ...int) []impl.MonMon {
	var grid []impl.MonMon
	for _, x := range counts {
		for _, y := range counts {
			for _, d := range counts {
				for _, e := range counts {
					grid = append(grid, impl.MonMon{X: x, Y: y, D: d, E: e})
				}
			}
		}
	}
	return grid
}

// someMons are a grid at the edges and some rolled ones.
func someMons() []impl.MonMon {
	mons := gridMons(0, 1, 2, 15)
	d := dice(2)
	for range 100 {
		mons = append(mons, d.mon(impl.MonMax))
	}
	return mons
}

func allMons() []impl.MonMon {
	return gridMons(0, 1, 2, 3, 4, 5, 6, 7, 8, 9, 10, 11, 12, 13, 14, 15)
}

func TestMonTable(t *testing.T) {
	if impl.OrdDeg != 1 || impl.OrdLex != 2 || impl.OrdOut != 3 || impl.MonMax != 15 {
		t.Fatal("a constant is not that of the table")
	}
}

func TestMonOkAndDeg(t *testing.T) {
	for _, m := range allMons() {
		if !impl.MonOk(m) {
			t.Fatalf("MonOk(%v) is false", m)
		}
		if got := impl.MonDeg(m); got != m.X+m.Y+m.D+m.E {
			t.Fatalf("MonDeg(%v) is %d", m, got)
		}
	}
	for _, m := range badMons() {
		if impl.MonOk(m) || impl.MonDeg(m) != 0 {
			t.Fatalf("MonOk(%v) is %v, MonDeg %d", m, impl.MonOk(m), impl.MonDeg(m))
		}
	}
}

// P55
func TestMonCmpIsAnOrder(t *testing.T) {
	mons := gridMons(0, 1, 15)
	for _, order := range allOrders {
		for _, a := range mons {
			if got := impl.MonCmp(order, impl.MonMon{}, a); got > 0 || (got == 0) != (a == impl.MonMon{}) {
				t.Fatalf("MonCmp(%d) of 1 and %v is %d", order, a, got)
			}
			for _, b := range mons {
				ab := impl.MonCmp(order, a, b)
				if ab != -impl.MonCmp(order, b, a) || (ab == 0) != (a == b) || ab < -1 || ab > 1 {
					t.Fatalf("MonCmp(%d) of %v and %v is %d, the other way round %d", order, a, b, ab, impl.MonCmp(order, b, a))
				}
				for _, c := range mons {
					if ab < 0 && impl.MonCmp(order, b, c) < 0 && impl.MonCmp(order, a, c) != -1 {
						t.Fatalf("MonCmp(%d): %v, %v, %v do not rise", order, a, b, c)
					}
				}
			}
		}
	}
}

// P56
func TestMonCmpAsksInOrder(t *testing.T) {
	mons := someMons()
	for _, order := range allOrders {
		for _, a := range mons {
			for _, b := range mons {
				want := slices.Compare(orderKeys(order, a), orderKeys(order, b))
				if got := impl.MonCmp(order, a, b); got != want {
					t.Fatalf("MonCmp(%d) of %v and %v is %d, not %d", order, a, b, got, want)
				}
			}
		}
	}
}

func TestMonCmpByHand(t *testing.T) {
	cases := []struct {
		a, b          string
		deg, lex, out int
	}{
		{"x", "y", 1, 1, 1},
		{"d", "e", 1, 1, 1},
		{"e", "x", 1, 1, -1},
		{"e", "y", 1, 1, 1},
		{"d", "x", 1, 1, 1},
		{"y2", "x", 1, -1, -1},
		{"e2", "d", 1, -1, -1},
		{"x2", "d", 1, -1, 1},
		{"xd", "d2", -1, -1, -1},
		{"xd", "ye", 1, 1, 1},
		{"x15", "d", 1, -1, 1},
		{"y15e15", "x", 1, 1, -1},
		{"x15y15e15", "d", 1, -1, 1},
		{"xy", "xe", -1, -1, -1},
		{"1", "y", -1, -1, -1},
		{"xyde", "xyde", 0, 0, 0},
	}
	for _, c := range cases {
		a, aOk := impl.MonRead(c.a)
		b, bOk := impl.MonRead(c.b)
		if !aOk || !bOk {
			t.Fatalf("%q or %q is not read", c.a, c.b)
		}
		got := [3]int{impl.MonCmp(impl.OrdDeg, a, b), impl.MonCmp(impl.OrdLex, a, b), impl.MonCmp(impl.OrdOut, a, b)}
		if got != [3]int{c.deg, c.lex, c.out} {
			t.Fatalf("%s and %s: %v", c.a, c.b, got)
		}
	}
}

func TestMonCmpWrong(t *testing.T) {
	good := impl.MonMon{X: 3, D: 2}
	for _, order := range badOrders {
		for _, m := range someMons() {
			if got := impl.MonCmp(order, m, good); got != 0 {
				t.Fatalf("MonCmp(%d) of %v and %v is %d", order, m, good, got)
			}
		}
	}
	for _, order := range allOrders {
		for _, bad := range badMons() {
			for _, other := range []impl.MonMon{{}, good, bad} {
				if impl.MonCmp(order, bad, other) != 0 || impl.MonCmp(order, other, bad) != 0 {
					t.Fatalf("MonCmp(%d) of %v and %v is not 0", order, bad, other)
				}
			}
		}
	}
}

// P57
func TestMonCmpOfProducts(t *testing.T) {
	mons := append(gridMons(0, 1, 7), gridMons(0, 2)...)
	for _, order := range allOrders {
		for _, a := range mons {
			for _, b := range mons {
				ab := impl.MonCmp(order, a, b)
				for _, c := range gridMons(0, 1, 8) {
					ac, acOk := impl.MonMul(a, c)
					bc, bcOk := impl.MonMul(b, c)
					if !acOk || !bcOk {
						t.Fatalf("%v or %v times %v is false", a, b, c)
					}
					if impl.MonCmp(order, ac, bc) != ab {
						t.Fatalf("MonCmp(%d) of %v and %v, each with %v, is not %d", order, a, b, c, ab)
					}
					if impl.MonCmp(order, ac, a) < 0 || impl.MonCmp(order, ac, c) < 0 {
						t.Fatalf("MonCmp(%d): %v times %v is less than one of them", order, a, c)
					}
				}
			}
		}
	}
}

// P58, and what MonMul and MonOver are, count by count.
func TestMonMulAndOver(t *testing.T) {
	mons := someMons()
	for _, a := range mons {
		for _, b := range mons {
			sum := impl.MonMon{X: a.X + b.X, Y: a.Y + b.Y, D: a.D + b.D, E: a.E + b.E}
			fits := max(sum.X, sum.Y, sum.D, sum.E) <= impl.MonMax
			ab, ok := impl.MonMul(a, b)
			if ok != fits || ok && ab != sum || !ok && ab != (impl.MonMon{}) {
				t.Fatalf("MonMul of %v and %v is %v, %v", a, b, ab, ok)
			}
			if !ok {
				continue
			}
			if over, ok := impl.MonOver(ab, a); !ok || over != b {
				t.Fatalf("MonOver of %v and %v is %v, %v", ab, a, over, ok)
			}
			if impl.MonDeg(ab) != impl.MonDeg(a)+impl.MonDeg(b) {
				t.Fatalf("MonDeg of %v does not add up", ab)
			}
		}
	}
}

func TestMonMulAtTheEdge(t *testing.T) {
	for place := range 4 {
		for a := 0; a <= impl.MonMax; a++ {
			for b := 0; b <= impl.MonMax; b++ {
				got, ok := impl.MonMul(atPlace(impl.MonMon{}, place, a), atPlace(impl.MonMon{}, place, b))
				want := impl.MonMon{}
				if a+b <= impl.MonMax {
					want = atPlace(impl.MonMon{}, place, a+b)
				}
				if got != want || ok != (a+b <= impl.MonMax) {
					t.Fatalf("MonMul at %d of %d and %d is %v, %v", place, a, b, got, ok)
				}
			}
		}
	}
}

// P59
func TestMonOverAndDivides(t *testing.T) {
	mons := someMons()
	for _, a := range mons {
		for _, b := range mons {
			want := a.X <= b.X && a.Y <= b.Y && a.D <= b.D && a.E <= b.E
			over, ok := impl.MonOver(b, a)
			if impl.MonDivides(a, b) != want || ok != want {
				t.Fatalf("MonDivides of %v and %v is %v, MonOver %v", a, b, impl.MonDivides(a, b), ok)
			}
			if !ok {
				if over != (impl.MonMon{}) {
					t.Fatalf("MonOver of %v and %v is %v, false", b, a, over)
				}
				continue
			}
			if back, ok := impl.MonMul(a, over); !ok || back != b {
				t.Fatalf("MonMul of %v and %v is %v, %v", a, over, back, ok)
			}
		}
	}
}

// P60
func TestMonDividesIsAnOrder(t *testing.T) {
	mons := append(gridMons(0, 1, 15), gridMons(2, 3)...)
	for _, a := range mons {
		if !impl.MonDivides(a, a) {
			t.Fatalf("%v does not divide itself", a)
		}
		for _, b := range mons {
			ab := impl.MonDivides(a, b)
			if ab && impl.MonDivides(b, a) && a != b {
				t.Fatalf("%v and %v divide each other", a, b)
			}
			for _, c := range mons {
				if ab && impl.MonDivides(b, c) && !impl.MonDivides(a, c) {
					t.Fatalf("%v divides %v, and that %v", a, b, c)
				}
			}
		}
	}
}

// P61
func TestMonBoth(t *testing.T) {
	mons := gridMons(0, 1, 15)
	for _, a := range mons {
		for _, b := range mons {
			both := impl.MonBoth(a, b)
			if both != impl.MonBoth(b, a) || !impl.MonOk(both) || !impl.MonDivides(a, both) || !impl.MonDivides(b, both) {
				t.Fatalf("MonBoth of %v and %v is %v", a, b, both)
			}
			for _, c := range mons {
				if impl.MonDivides(a, c) && impl.MonDivides(b, c) && !impl.MonDivides(both, c) {
					t.Fatalf("MonBoth of %v and %v is %v, which does not divide %v", a, b, both, c)
				}
			}
		}
	}
	for _, a := range someMons() {
		for _, b := range someMons() {
			want := impl.MonMon{X: max(a.X, b.X), Y: max(a.Y, b.Y), D: max(a.D, b.D), E: max(a.E, b.E)}
			if impl.MonBoth(a, b) != want {
				t.Fatalf("MonBoth of %v and %v is %v", a, b, impl.MonBoth(a, b))
			}
		}
	}
}

func TestMonWrong(t *testing.T) {
	bad := badMons()
	others := append(gridMons(0, 1, 15), bad...)
	for _, m := range bad {
		if text := impl.MonText(m); text != "" {
			t.Fatalf("MonText of %v is %q", m, text)
		}
		for _, other := range others {
			for _, pair := range [][2]impl.MonMon{{m, other}, {other, m}} {
				product, mulOk := impl.MonMul(pair[0], pair[1])
				over, overOk := impl.MonOver(pair[0], pair[1])
				both := impl.MonBoth(pair[0], pair[1])
				if mulOk || overOk || impl.MonDivides(pair[0], pair[1]) || product != (impl.MonMon{}) || over != (impl.MonMon{}) || both != (impl.MonMon{}) {
					t.Fatalf("%v: MonMul %v %v, MonOver %v %v, MonBoth %v", pair, product, mulOk, over, overOk, both)
				}
			}
		}
	}
}

// P62
func TestMonTextAndRead(t *testing.T) {
	for _, m := range allMons() {
		text := impl.MonText(m)
		if text != plainMonText(m) {
			t.Fatalf("MonText of %v is %q", m, text)
		}
		if got, ok := impl.MonRead(text); !ok || got != m {
			t.Fatalf("MonRead of %q is %v, %v", text, got, ok)
		}
	}
}

// textsOver calls f with each text of at most so many bytes of an alphabet.
func textsOver(alphabet string, most int, f func(string)) {
	texts := []string{""}
	for size := 0; ; size++ {
		var longer []string
		for _, text := range texts {
			f(text)
			for i := 0; size < most && i < len(alphabet); i++ {
				longer = append(longer, text+alphabet[i:i+1])
			}
		}
		if size == most {
			return
		}
		texts = longer
	}
}

func TestMonReadOfAnyText(t *testing.T) {
	written := map[string]impl.MonMon{}
	for _, m := range allMons() {
		written[plainMonText(m)] = m
	}
	try := func(text string) {
		want, isOne := written[text]
		got, ok := impl.MonRead(text)
		if ok != isOne || got != want {
			t.Fatalf("MonRead of %q is %v, %v, not %v, %v", text, got, ok, want, isOne)
		}
	}
	textsOver("xyde01256+ X", 4, try)
	textsOver("xe15", 7, try)
	d := dice(62)
	for range 200000 {
		text := []byte(plainMonText(d.mon(impl.MonMax)))
		place := d.roll(len(text))
		switch d.roll(3) {
		case 0:
			text[place] = byte(d.roll(256))
		case 1:
			text = slices.Delete(text, place, place+1)
		default:
			text = slices.Insert(text, place, "xyde0123456789+ "[d.roll(16)])
		}
		try(string(text))
	}
}

func TestMonReadWrong(t *testing.T) {
	wrong := []string{
		"", "0", "01", "11", "2", "x1", "x0", "x00", "x02", "x015", "x16", "x99", "x100", "x18446744073709551617", "x4294967297",
		"x2147483648", "x9223372036854775807", "x9223372036854775808", "x-1", "x+1", "x 2", " x", "x ", "xx", "x2x3", "yx", "dx", "ed", "ey", "xyed",
		"1x", "x1y", "xy1", "X", "z", "f", "x^2", "x*y", "x\x00", "\x00", "\x00x", "x\n", "x²", "х", "x\xff", "\xffx", "x\x80", "x٣", "é", "\xd1\x85",
		strings.Repeat("x", 39), strings.Repeat("x", 40), strings.Repeat("x", 41),
		"x" + strings.Repeat("0", 38) + "2", "x" + strings.Repeat("0", 39) + "2", strings.Repeat("1", 40), strings.Repeat("1", 41),
		strings.Repeat(" ", 39) + "x", strings.Repeat(" ", 40) + "x", "x" + strings.Repeat(" ", 39), strings.Repeat("x", 1<<16),
		strings.Repeat("1", 1<<16), "x15y15d15e15x15y15d15e15x15y15d15e15xyde", "x15y15d15e15x15y15d15e15x15y15d15e15xydex",
	}
	for _, text := range wrong {
		if m, ok := impl.MonRead(text); ok || m != (impl.MonMon{}) {
			t.Fatalf("MonRead of %q is %v, %v", text, m, ok)
		}
	}
}
