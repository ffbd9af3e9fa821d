package whole_test

import (
	"math"
	"math/big"
	"math/rand"
	"slices"
	"strings"
	"testing"

	"annuitant/api"
	"annuitant/whole"
)

type binary func(a, b api.Whole) (api.Whole, api.Errno)

func quotient(a, b api.Whole) (api.Whole, api.Errno) {
	q, _, e := whole.DivMod(a, b)
	return q, e
}

func remainder(a, b api.Whole) (api.Whole, api.Errno) {
	_, r, e := whole.DivMod(a, b)
	return r, e
}

var operations = map[string]binary{
	"Add": whole.Add, "Sub": whole.Sub, "Mul": whole.Mul, "quotient": quotient, "remainder": remainder, "Gcd": whole.Gcd,
}

// expected is computed by math/big; DivMod of the document rounds down.
func expected(name string, x, y *big.Int) *big.Int {
	z, m := new(big.Int), new(big.Int)
	switch name {
	case "Add":
		return z.Add(x, y)
	case "Sub":
		return z.Sub(x, y)
	case "Mul":
		return z.Mul(x, y)
	case "Gcd":
		return z.GCD(nil, nil, new(big.Int).Abs(x), new(big.Int).Abs(y))
	}
	z.QuoRem(x, y, m)
	if m.Sign() != 0 && m.Sign() != y.Sign() {
		z.Sub(z, big.NewInt(1))
		m.Add(m, y)
	}
	if name == "quotient" {
		return z
	}
	return m
}

func toBig(a api.Whole) *big.Int {
	x := new(big.Int)
	for _, limb := range slices.Backward(a.Limbs) {
		x.Lsh(x, 16).Add(x, big.NewInt(int64(limb)))
	}
	if a.Neg {
		x.Neg(x)
	}
	return x
}

func fromBig(x *big.Int) api.Whole {
	a := api.Whole{Neg: x.Sign() < 0}
	rest, mask := new(big.Int).Abs(x), big.NewInt(65535)
	for rest.Sign() > 0 {
		a.Limbs = append(a.Limbs, uint16(new(big.Int).And(rest, mask).Uint64()))
		rest.Rsh(rest, 16)
	}
	return a
}

// power returns 2 to the power n.
func power(n uint) api.Whole {
	return fromBig(new(big.Int).Lsh(big.NewInt(1), n))
}

func greatest() api.Whole {
	return api.Whole{Limbs: slices.Repeat([]uint16{65535}, whole.MaxWide)}
}

func negative(a api.Whole) api.Whole {
	return api.Whole{Neg: true, Limbs: a.Limbs}
}

func invalids() []api.Whole {
	long := make([]uint16, whole.MaxWide+1)
	long[whole.MaxWide] = 1
	return []api.Whole{
		{Neg: true}, {Neg: true, Limbs: []uint16{}}, {Limbs: []uint16{0}}, {Neg: true, Limbs: []uint16{0}},
		{Limbs: []uint16{1, 0}}, {Limbs: []uint16{0, 0}}, {Limbs: long}, {Neg: true, Limbs: long},
		{Limbs: make([]uint16, whole.MaxWide)}, {Limbs: make([]uint16, 1<<20)},
	}
}

// sample has numbers at which carries, borrows and estimates of digits are hardest.
func sample(random *rand.Rand) []api.Whole {
	numbers := []api.Whole{{}, {Limbs: []uint16{}}}
	for _, n := range []int{1, -1, 2, -2, 3, 7, -12, 18, 9999, 10000, 65535, 65536, -65536, 65537, 1 << 31, 1<<32 - 1, 1 << 32, -1 << 48, math.MaxInt, math.MinInt} {
		numbers = append(numbers, whole.FromInt(n))
	}
	extremes := []uint16{0, 1, 2, 0x7fff, 0x8000, 0x8001, 0xfffe, 0xffff}
	for range 60 {
		limbs := make([]uint16, 1+random.Intn(12))
		for i := range limbs {
			if random.Intn(2) == 0 {
				limbs[i] = extremes[random.Intn(len(extremes))]
			} else {
				limbs[i] = uint16(random.Intn(1 << 16))
			}
		}
		if limbs[len(limbs)-1] == 0 {
			limbs[len(limbs)-1] = 1
		}
		numbers = append(numbers, api.Whole{Neg: random.Intn(3) == 0, Limbs: limbs})
	}
	return numbers
}

// check compares all the operations on a pair with math/big.
func check(t *testing.T, a, b api.Whole) {
	t.Helper()
	for name, operation := range operations {
		if len(b.Limbs) == 0 && (name == "quotient" || name == "remainder") {
			continue
		}
		got, e := operation(a, b)
		want := fromBig(expected(name, toBig(a), toBig(b)))
		if len(want.Limbs) > whole.MaxWide {
			if e != api.ErrLong || got.Neg || len(got.Limbs) != 0 {
				t.Errorf("%s: error %d instead of ErrLong", name, e)
			}
		} else if e != api.OK || !whole.Same(got, want) || !whole.Valid(got) {
			t.Errorf("%s of %v, %v: %v, %d instead of %v", name, a, b, got, e, want)
		}
	}
}

// P1.1
func TestValid(t *testing.T) {
	for i, a := range []api.Whole{{}, {Limbs: []uint16{}}, {Limbs: []uint16{1}}, {Neg: true, Limbs: []uint16{1}}, {Limbs: []uint16{0, 1}}, greatest(), negative(greatest())} {
		if !whole.Valid(a) {
			t.Error(i)
		}
	}
	for i, a := range invalids() {
		if whole.Valid(a) {
			t.Error(i)
		}
	}
}

// P1.1
func TestSame(t *testing.T) {
	all := append(invalids(), api.Whole{}, api.Whole{Limbs: []uint16{1}}, api.Whole{Limbs: []uint16{2}}, api.Whole{Neg: true, Limbs: []uint16{1}}, api.Whole{Limbs: []uint16{1, 1}}, api.Whole{Limbs: []uint16{2, 1}}, greatest())
	for i, a := range all {
		for j, b := range all {
			want := a.Neg == b.Neg && slices.Equal(a.Limbs, b.Limbs)
			if whole.Same(a, b) != want {
				t.Error(i, j)
			}
		}
	}
	if !whole.Same(api.Whole{}, api.Whole{Limbs: []uint16{}}) {
		t.Error("a nil slice is not the same as an empty one")
	}
}

// P1.2
func TestInt(t *testing.T) {
	if a := whole.FromInt(-65537); !a.Neg || !slices.Equal(a.Limbs, []uint16{1, 1}) {
		t.Error(a)
	}
	if a := whole.FromInt(0); a.Neg || len(a.Limbs) != 0 {
		t.Error(a)
	}
	for _, n := range []int{0, 1, -1, 65535, -65535, 65536, -65536, 1 << 32, -1 << 47, 1 << 48, math.MaxInt, -math.MaxInt, math.MinInt} {
		a := whole.FromInt(n)
		if m, e := whole.Int(a); m != n || e != api.OK || !whole.Same(a, fromBig(big.NewInt(int64(n)))) {
			t.Error(n, a, m, e)
		}
	}
	below := fromBig(new(big.Int).Sub(big.NewInt(math.MinInt), big.NewInt(1)))
	for i, a := range []api.Whole{power(63), below, negative(power(64)), power(64), greatest()} {
		if n, e := whole.Int(a); n != 0 || e != api.ErrLong {
			t.Error(i, n, e)
		}
	}
}

// P1.2
func TestCmp(t *testing.T) {
	numbers := append(sample(rand.New(rand.NewSource(1))), greatest(), negative(greatest()))
	for _, a := range numbers {
		for _, b := range numbers {
			if got, want := whole.Cmp(a, b), toBig(a).Cmp(toBig(b)); got != want {
				t.Error(a, b, got)
			}
		}
	}
	for i, a := range invalids() {
		if whole.Cmp(a, whole.FromInt(1)) != 0 || whole.Cmp(whole.FromInt(1), a) != 0 || whole.Cmp(a, a) != 0 {
			t.Error(i)
		}
	}
}

// P1.3
func TestSmallNumbers(t *testing.T) {
	for a := -30; a <= 30; a++ {
		for b := -30; b <= 30; b++ {
			check(t, whole.FromInt(a), whole.FromInt(b))
		}
	}
}

// P1.3
func TestOperations(t *testing.T) {
	numbers := sample(rand.New(rand.NewSource(2)))
	for _, a := range numbers {
		for _, b := range numbers {
			check(t, a, b)
		}
	}
}

// P1.3
func TestLongNumbers(t *testing.T) {
	one, two := whole.FromInt(1), whole.FromInt(2)
	half := api.Whole{Limbs: slices.Repeat([]uint16{65535}, whole.MaxWide/2)}
	third := api.Whole{Limbs: slices.Repeat([]uint16{21845}, whole.MaxWide)}
	numbers := []api.Whole{
		{}, one, negative(one), two, negative(two), half, negative(half), third, greatest(), negative(greatest()),
		power(16383), negative(power(16383)), power(8192), power(8191), whole.FromInt(65536), whole.FromInt(65537),
	}
	for _, a := range numbers {
		for _, b := range numbers {
			check(t, a, b)
		}
	}
}

// P1.3: the results that just have, and just have not, MaxWide limbs.
func TestErrLong(t *testing.T) {
	one, top := whole.FromInt(1), greatest()
	for i, c := range []struct {
		operation binary
		a, b      api.Whole
		want      api.Errno
	}{
		{whole.Add, top, one, api.ErrLong},
		{whole.Add, negative(top), negative(one), api.ErrLong},
		{whole.Add, top, negative(one), api.OK},
		{whole.Sub, negative(top), one, api.ErrLong},
		{whole.Sub, top, negative(one), api.ErrLong},
		{whole.Sub, top, top, api.OK},
		{whole.Mul, power(8192), power(8192), api.ErrLong},
		{whole.Mul, power(8192), power(8191), api.OK},
		{whole.Mul, top, negative(one), api.OK},
		{whole.Mul, top, whole.FromInt(2), api.ErrLong},
	} {
		if a, e := c.operation(c.a, c.b); e != c.want || e != api.OK && (a.Neg || len(a.Limbs) != 0) {
			t.Error(i, e)
		}
	}
}

// P1.3
func TestZeroDivisor(t *testing.T) {
	for i, a := range []api.Whole{{}, whole.FromInt(1), whole.FromInt(-5), greatest()} {
		if q, r, e := whole.DivMod(a, api.Whole{}); e != whole.ErrZero || q.Neg || r.Neg || len(q.Limbs)+len(r.Limbs) != 0 {
			t.Error(i, q, r, e)
		}
	}
}

// P1.3: pairs with many small quotients, with great ones, with common factors, and with equal leading bits.
func TestGcdOfLongNumbers(t *testing.T) {
	random := rand.New(rand.NewSource(3))
	limit := new(big.Int).Lsh(big.NewInt(1), 16384)
	bits := func(n int) *big.Int { return new(big.Int).Rand(random, new(big.Int).Lsh(big.NewInt(1), uint(n))) }
	pair := func(x, y *big.Int) {
		t.Helper()
		if x.CmpAbs(limit) >= 0 || y.CmpAbs(limit) >= 0 {
			t.Fatal("the pair is too long")
		}
		for _, p := range [][2]*big.Int{{x, y}, {y, x}} {
			g, e := whole.Gcd(fromBig(p[0]), fromBig(p[1]))
			want := fromBig(expected("Gcd", x, y))
			if e != api.OK || !whole.Same(g, want) {
				t.Errorf("%v, %v: %v, %d", x, y, g, e)
			}
		}
	}
	x, y := big.NewInt(1), big.NewInt(1)
	for range 2000 {
		x, y = y, new(big.Int).Add(x, y)
	}
	pair(x, y)
	for n := 20; n <= 6000; n = n*3/2 + 1 {
		for range 4 {
			factor := bits(n / 2)
			a, b := bits(n), bits(n)
			pair(a, b)
			pair(new(big.Int).Mul(a, factor), new(big.Int).Mul(b, factor))
			pair(new(big.Int).Mul(a, factor), factor)
			pair(a, bits(n/3))
			pair(a, new(big.Int).Neg(bits(30)))
			pair(new(big.Int).Lsh(a, 64), new(big.Int).Add(new(big.Int).Lsh(a, 64), b))
			pair(a, a)
		}
	}
}

// P1.4
func TestTextAndParse(t *testing.T) {
	numbers := append(sample(rand.New(rand.NewSource(4))), greatest(), negative(greatest()), power(16383), third())
	ten := big.NewInt(1)
	for range 60 {
		ten = new(big.Int).Mul(ten, big.NewInt(10))
		numbers = append(numbers, fromBig(ten), fromBig(new(big.Int).Sub(ten, big.NewInt(1))), negative(fromBig(ten)))
	}
	for _, a := range numbers {
		want := toBig(a).String()
		if s, e := whole.Text(a); s != want || e != api.OK {
			t.Error(want, s, e)
		}
		if b, e := whole.Parse(want); !whole.Same(a, b) || !whole.Valid(b) || e != api.OK {
			t.Error(want, b, e)
		}
	}
	if s, e := whole.Text(whole.FromInt(-10)); s != "-10" || e != api.OK {
		t.Error(s, e)
	}
}

func third() api.Whole {
	return api.Whole{Limbs: slices.Repeat([]uint16{21845}, whole.MaxWide)}
}

// P1.4
func TestParseErrors(t *testing.T) {
	for _, s := range []string{"", "-", "-0", "00", "-00", "007", "-07", "+1", " 1", "1 ", "1\n", "--1", "1-", "-1-", "1_000", "1e3", "0x1", "a", "1.0", "\x00", "1\x00", "٣", "１", "\xff1", "1/", "1:"} {
		if a, e := whole.Parse(s); e != whole.ErrText || a.Neg || len(a.Limbs) != 0 {
			t.Errorf("%q: %v, %d", s, a, e)
		}
	}
	beyond := new(big.Int).Lsh(big.NewInt(1), 16384).String()
	for i, s := range []string{beyond, "-" + beyond, strings.Repeat("9", 4933), strings.Repeat("9", 4934), "1" + strings.Repeat("0", 1<<20)} {
		if a, e := whole.Parse(s); e != api.ErrLong || a.Neg || len(a.Limbs) != 0 {
			t.Error(i, e)
		}
	}
	for i, s := range []string{beyond + "x", "0" + beyond, strings.Repeat("9", 1<<20) + " ", "-" + strings.Repeat("0", 1<<20)} {
		if _, e := whole.Parse(s); e != whole.ErrText {
			t.Error(i, e)
		}
	}
	if a, e := whole.Parse(strings.Repeat("9", 4932)); e != api.OK || len(a.Limbs) != whole.MaxWide {
		t.Error(len(a.Limbs), e)
	}
}

// P1.5, R1, R2, R7
func TestInvalidArguments(t *testing.T) {
	valid := []api.Whole{{}, whole.FromInt(1), whole.FromInt(-7), greatest()}
	for i, a := range invalids() {
		for _, b := range append(valid, a) {
			for name, operation := range operations {
				for _, pair := range [][2]api.Whole{{a, b}, {b, a}} {
					if c, e := operation(pair[0], pair[1]); e != api.ErrArg || c.Neg || len(c.Limbs) != 0 {
						t.Error(i, name, c, e)
					}
				}
			}
		}
		if n, e := whole.Int(a); n != 0 || e != api.ErrArg {
			t.Error(i, n, e)
		}
		if s, e := whole.Text(a); s != "" || e != api.ErrArg {
			t.Error(i, s, e)
		}
	}
}

// P1.6
func TestLaws(t *testing.T) {
	must := func(operation binary, a, b api.Whole) api.Whole {
		c, e := operation(a, b)
		if e != api.OK {
			t.Fatal(a, b, e)
		}
		return c
	}
	same := func(a, b api.Whole) {
		t.Helper()
		if !whole.Same(a, b) || whole.Cmp(a, b) != 0 {
			t.Error(a, b)
		}
	}
	numbers := sample(rand.New(rand.NewSource(5)))[:40]
	for i, a := range numbers {
		for j, b := range numbers {
			c := numbers[(i+j)%len(numbers)]
			same(must(whole.Add, a, b), must(whole.Add, b, a))
			same(must(whole.Mul, a, b), must(whole.Mul, b, a))
			same(must(whole.Sub, must(whole.Add, a, b), b), a)
			same(must(whole.Mul, a, must(whole.Add, b, c)), must(whole.Add, must(whole.Mul, a, b), must(whole.Mul, a, c)))
			same(must(whole.Gcd, a, b), must(whole.Gcd, b, a))
			if (whole.Cmp(a, b) == 0) != whole.Same(a, b) {
				t.Error(a, b)
			}
			if len(b.Limbs) > 0 {
				q, r := must(quotient, a, b), must(remainder, a, b)
				same(must(whole.Add, must(whole.Mul, q, b), r), a)
				if len(r.Limbs) > 0 && r.Neg != b.Neg || toBig(r).CmpAbs(toBig(b)) >= 0 {
					t.Error(a, b, r)
				}
			}
		}
	}
}

// R3, R4
func TestArgumentsAreLeftAlone(t *testing.T) {
	const guard = 4711
	guarded := func(a api.Whole) api.Whole {
		limbs := append(slices.Clone(a.Limbs), guard, guard, guard, guard)
		return api.Whole{Neg: a.Neg, Limbs: limbs[:len(a.Limbs)]}
	}
	numbers := append(sample(rand.New(rand.NewSource(6))), greatest(), api.Whole{Limbs: []uint16{1, 0}})
	for _, x := range numbers {
		for _, y := range numbers {
			a, b := guarded(x), guarded(y)
			for name, operation := range operations {
				first, e1 := operation(a, b)
				kept := slices.Clone(first.Limbs)
				full := first.Limbs[:cap(first.Limbs)]
				for i := range full {
					full[i] = 1
				}
				second, e2 := operation(a, b)
				if e1 != e2 || !slices.Equal(kept, second.Limbs) || first.Neg != second.Neg {
					t.Error(name, x, y)
				}
			}
			whole.Cmp(a, b)
			whole.Same(a, b)
			whole.Int(a)
			whole.Text(a)
			for _, p := range [][2]api.Whole{{a, x}, {b, y}} {
				rest := p[0].Limbs[len(p[0].Limbs):][:4]
				if !whole.Same(p[0], p[1]) || !slices.Equal(rest, []uint16{guard, guard, guard, guard}) {
					t.Fatal(x, y, "arguments are changed")
				}
			}
		}
	}
}

// R3
func TestResultsShareNothing(t *testing.T) {
	for _, b := range []int{1, 2, -3, 70000, 1 << 40} {
		q, r, _ := whole.DivMod(whole.FromInt(-1<<50+1), whole.FromInt(b))
		kept := slices.Clone(r.Limbs)
		full := q.Limbs[:cap(q.Limbs)]
		for i := range full {
			full[i] = 7
		}
		if !slices.Equal(kept, r.Limbs) {
			t.Error(b)
		}
	}
	one := whole.FromInt(1)
	one.Limbs[0] = 2
	if !whole.Same(whole.FromInt(1), api.Whole{Limbs: []uint16{1}}) {
		t.Error("FromInt")
	}
}

// R5
func TestNilAndEmptyAreEquivalent(t *testing.T) {
	none, empty := api.Whole{}, api.Whole{Limbs: []uint16{}}
	for name, operation := range operations {
		for _, other := range []api.Whole{none, empty, whole.FromInt(-9)} {
			a, e1 := operation(none, other)
			b, e2 := operation(empty, other)
			if e1 != e2 || !whole.Same(a, b) {
				t.Error(name, a, b, e1, e2)
			}
			a, e1 = operation(other, none)
			b, e2 = operation(other, empty)
			if e1 != e2 || !whole.Same(a, b) {
				t.Error(name, a, b, e1, e2)
			}
		}
	}
}

func BenchmarkGcd(b *testing.B) {
	random := rand.New(rand.NewSource(7))
	limit := new(big.Int).Lsh(big.NewInt(1), 16384)
	x, y := fromBig(new(big.Int).Rand(random, limit)), fromBig(new(big.Int).Rand(random, limit))
	for b.Loop() {
		whole.Gcd(x, y)
	}
}

func BenchmarkSmallMul(b *testing.B) {
	x, y := whole.FromInt(123456), whole.FromInt(-789)
	for b.Loop() {
		whole.Mul(x, y)
	}
}

func BenchmarkText(b *testing.B) {
	x := greatest()
	for b.Loop() {
		whole.Text(x)
	}
}
