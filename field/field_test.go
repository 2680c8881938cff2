package field_test

import (
	"bytes"
	"math"
	"sync"
	"testing"

	"ciborium/api"
	"ciborium/field"
)

const polynomial = 0x11d

// product is the product of two bytes, bit by bit: slow, and plain.
func product(a, b uint8) uint8 {
	whole := 0
	for bit := range 8 {
		if b>>bit&1 == 1 {
			whole ^= int(a) << bit
		}
	}
	for bit := 15; bit >= 8; bit-- {
		if whole>>bit&1 == 1 {
			whole ^= polynomial << (bit - 8)
		}
	}
	return uint8(whole)
}

// inverse looks for the byte whose product with a is 1.
func inverse(t *testing.T, a uint8) uint8 {
	t.Helper()
	for b := range 256 {
		if product(a, uint8(b)) == 1 {
			return uint8(b)
		}
	}
	t.Fatalf("%d has no inverse", a)
	return 0
}

// power is a to n, by squares.
func power(a uint8, n uint64) uint8 {
	all := uint8(1)
	for ; n > 0; n >>= 1 {
		if n%2 == 1 {
			all = product(all, a)
		}
		a = product(a, a)
	}
	return all
}

// some are bytes that stand for all of them.
func some() []byte {
	return []byte{0, 1, 2, 3, 5, 28, 29, 76, 127, 128, 129, 142, 200, 244, 254, 255}
}

// row answers so many bytes, the same ones each time.
func row(size int, seed uint32) []byte {
	b := make([]byte, size)
	for i := range b {
		seed = seed*1664525 + 1013904223
		b[i] = byte(seed >> 24)
	}
	return b
}

// sum is the exclusive or of two rows of one length.
func sum(a, b []byte) []byte {
	all := bytes.Clone(a)
	for i, x := range b {
		all[i] ^= x
	}
	return all
}

// The examples

func TestExamples(t *testing.T) {
	f := field.New()
	if got := f.Mul(2, 128); got != 29 {
		t.Errorf("2 times 128 = %d", got)
	}
	if got, e := f.Div(3, 3); got != 1 || e != api.OK {
		t.Errorf("3 by 3 = %d, %d", got, e)
	}
	if got, e := f.Pow(2, 255); got != 1 || e != api.OK {
		t.Errorf("2 to 255 = %d, %d", got, e)
	}
}

// P3.1

func TestMul(t *testing.T) {
	f := field.New()
	for a := range 256 {
		for b := range 256 {
			if got, want := f.Mul(uint8(a), uint8(b)), product(uint8(a), uint8(b)); got != want {
				t.Fatalf("%d times %d = %d, want %d", a, b, got, want)
			}
		}
	}
}

func TestDiv(t *testing.T) {
	f := field.New()
	for b := 1; b < 256; b++ {
		back := inverse(t, uint8(b))
		for a := range 256 {
			got, e := f.Div(uint8(a), uint8(b))
			if e != api.OK || got != product(uint8(a), back) {
				t.Fatalf("%d by %d = %d, %d", a, b, got, e)
			}
			if product(got, uint8(b)) != uint8(a) {
				t.Fatalf("%d by %d = %d, whose product with %d is another one", a, b, got, b)
			}
		}
	}
}

func TestDivOfAndByZero(t *testing.T) {
	f := field.New()
	for a := range 256 {
		if got, e := f.Div(uint8(a), 0); got != 0 || e != api.ErrArg {
			t.Errorf("%d by 0 = %d, %d", a, got, e)
		}
		if a > 0 {
			if got, e := f.Div(0, uint8(a)); got != 0 || e != api.OK {
				t.Errorf("0 by %d = %d, %d", a, got, e)
			}
		}
	}
}

// exponents are numbers at which powers come round, and the ends of all.
func exponents() []int {
	l := []int{1 << 31, 1<<31 - 1, 1<<32 + 1, 1 << 62, math.MaxInt - 254, math.MaxInt - 1, math.MaxInt}
	for n := range 520 {
		l = append(l, n)
	}
	for _, n := range l {
		l = append(l, -n)
	}
	return append(l, math.MinInt, math.MinInt+1, math.MinInt+2, math.MinInt+254, math.MinInt+255)
}

func TestPow(t *testing.T) {
	f := field.New()
	for _, n := range exponents() {
		for a := 1; a < 256; a++ {
			want := power(uint8(a), uint64(n))
			if n < 0 {
				// As a number without a sign, as that of the least int has none with one.
				want = inverse(t, power(uint8(a), -uint64(n)))
			}
			if got, e := f.Pow(uint8(a), n); got != want || e != api.OK {
				t.Fatalf("%d to %d = %d, %d, want %d", a, n, got, e, want)
			}
		}
	}
}

func TestPowStepByStep(t *testing.T) {
	f := field.New()
	for a := 1; a < 256; a++ {
		up, down, back := uint8(1), uint8(1), inverse(t, uint8(a))
		for n := range 600 {
			if got, e := f.Pow(uint8(a), n); got != up || e != api.OK {
				t.Fatalf("%d to %d = %d, %d, want %d", a, n, got, e, up)
			}
			if got, e := f.Pow(uint8(a), -n); got != down || e != api.OK {
				t.Fatalf("%d to -%d = %d, %d, want %d", a, n, got, e, down)
			}
			up, down = product(up, uint8(a)), product(down, back)
		}
	}
}

func TestPowOfWords(t *testing.T) {
	f := field.New()
	for _, c := range []struct {
		a    uint8
		n    int
		want uint8
	}{
		{2, 0, 1}, {2, 1, 2}, {2, 7, 128}, {2, 8, 29}, {2, 254, 142}, {2, 255, 1}, {2, 256, 2},
		{2, -1, 142}, {2, -254, 2}, {2, -255, 1}, {2, -256, 142},
		{1, 0, 1}, {1, 77, 1}, {1, -77, 1}, {1, math.MaxInt, 1}, {1, math.MinInt, 1},
		{3, 0, 1}, {3, 1, 3}, {3, 254, 244}, {3, 255, 1}, {3, 256, 3}, {3, -1, 244},
		{255, 0, 1}, {255, 1, 255}, {255, 255, 1}, {255, 256, 255},
		{2, math.MaxInt, 204}, {2, math.MinInt, 204}, // both are 127 and 255 so many times
	} {
		if got, e := f.Pow(c.a, c.n); got != c.want || e != api.OK {
			t.Errorf("%d to %d = %d, %d, want %d", c.a, c.n, got, e, c.want)
		}
	}
}

func TestPowOfZero(t *testing.T) {
	f := field.New()
	for _, n := range exponents() {
		want, wrong := uint8(0), api.OK
		if n == 0 {
			want = 1
		}
		if n < 0 {
			wrong = api.ErrArg
		}
		if got, e := f.Pow(0, n); got != want || e != wrong {
			t.Errorf("0 to %d = %d, %d, want %d, %d", n, got, e, want, wrong)
		}
	}
}

// P3.2

// sizes are lengths of rows.
func sizes() []int { return []int{0, 1, 2, 3, 7, 8, 64, 255, 256, 300} }

func TestScale(t *testing.T) {
	f := field.New()
	for c := range 256 {
		for _, size := range sizes() {
			r := row(size, uint32(c))
			got := f.Scale(uint8(c), r)
			if len(got) != size {
				t.Fatalf("%d times %d bytes are %d bytes", c, size, len(got))
			}
			for i, x := range r {
				if got[i] != product(uint8(c), x) {
					t.Fatalf("%d times %x = %x", c, r, got)
				}
			}
		}
	}
}

func TestScaleByZeroAndOne(t *testing.T) {
	f := field.New()
	r := row(300, 5)
	if got := f.Scale(0, r); !bytes.Equal(got, make([]byte, 300)) {
		t.Errorf("0 times a row = %x", got)
	}
	if got := f.Scale(1, r); !bytes.Equal(got, r) {
		t.Errorf("1 times a row = %x", got)
	}
	if len(f.Scale(7, nil)) != 0 || len(f.Scale(7, []byte{})) != 0 {
		t.Error("a multiple of nothing isn't nothing")
	}
}

func TestFold(t *testing.T) {
	f := field.New()
	for _, c := range some() {
		for _, of := range sizes() {
			for _, size := range sizes() {
				r, into := row(of, 1), row(size, 2)
				want := bytes.Clone(into)
				for i := range want {
					if i < of {
						want[i] ^= product(c, r[i])
					}
				}
				if got := f.Fold(c, r, into); !bytes.Equal(got, want) {
					t.Fatalf("%d times %x, added to %x = %x, want %x", c, r, into, got, want)
				}
			}
		}
	}
}

func TestFoldOfShortAndLongRows(t *testing.T) {
	f := field.New()
	for _, c := range []struct {
		c               uint8
		row, into, want []byte
	}{
		{2, []byte{128, 1}, []byte{1, 1}, []byte{28, 3}},
		{2, []byte{128}, []byte{1, 1, 9}, []byte{28, 1, 9}},
		{2, []byte{128, 1, 77}, []byte{1}, []byte{28}},
		{2, nil, []byte{1, 2}, []byte{1, 2}},
		{2, []byte{}, []byte{1, 2}, []byte{1, 2}},
		{2, []byte{1, 2}, nil, nil},
		{2, []byte{1, 2}, []byte{}, nil},
		{2, nil, nil, nil},
		{0, []byte{7, 8, 9}, []byte{1, 2}, []byte{1, 2}},
		{1, []byte{7, 8, 9}, []byte{1, 2}, []byte{6, 10}},
		{1, []byte{7, 8}, []byte{7, 8}, []byte{0, 0}},
	} {
		if got := f.Fold(c.c, c.row, c.into); !bytes.Equal(got, c.want) {
			t.Errorf("%d times %v, added to %v = %v, want %v", c.c, c.row, c.into, got, c.want)
		}
	}
}

func TestFoldIntoTheSameMemory(t *testing.T) {
	f := field.New()
	for _, c := range some() {
		for shift := range 4 {
			all := row(40, 3)
			kept := bytes.Clone(all)
			for _, pair := range [][2][]byte{{all, all}, {all[shift:], all}, {all, all[shift:]}, {all[:30], all[shift : shift+30]}} {
				want := f.Fold(c, bytes.Clone(pair[0]), bytes.Clone(pair[1]))
				got := f.Fold(c, pair[0], pair[1])
				if !bytes.Equal(got, want) || !bytes.Equal(all, kept) {
					t.Fatalf("%d times a row, added to one in the same memory: %x, want %x; the memory is %x", c, got, want, all)
				}
			}
		}
	}
}

func TestDot(t *testing.T) {
	f := field.New()
	for _, of := range sizes() {
		for _, size := range sizes() {
			a, b := row(of, 4), row(size, 5)
			var want uint8
			for i := range min(of, size) {
				want ^= product(a[i], b[i])
			}
			if got := f.Dot(a, b); got != want {
				t.Errorf("%x with %x = %d, want %d", a, b, got, want)
			}
		}
	}
	for _, c := range []struct {
		a, b []byte
		want uint8
	}{
		{nil, nil, 0}, {[]byte{}, nil, 0}, {nil, []byte{1}, 0}, {[]byte{1}, nil, 0}, {[]byte{}, []byte{5}, 0},
		{[]byte{2}, []byte{128}, 29}, {[]byte{2, 1}, []byte{128, 3}, 30},
		{[]byte{2, 1, 9}, []byte{128, 3}, 30}, {[]byte{2, 1}, []byte{128, 3, 9}, 30},
		{[]byte{0, 0, 0}, []byte{1, 2, 3}, 0}, {[]byte{1, 1, 1}, []byte{1, 2, 4}, 7},
	} {
		if got := f.Dot(c.a, c.b); got != c.want {
			t.Errorf("%v with %v = %d, want %d", c.a, c.b, got, c.want)
		}
	}
	if same := row(64, 9); f.Dot(same, same) != f.Dot(bytes.Clone(same), same) {
		t.Error("a row with itself isn't that with its like")
	}
}

// R3

// roomy answers a row with room behind its end, and all of that.
func roomy(size int, seed uint32) ([]byte, []byte) {
	all := row(size+16, seed)
	return all[:size], all
}

func TestNothingIsChanged(t *testing.T) {
	f := field.New()
	for _, c := range some() {
		for _, size := range sizes() {
			r, allOfRow := roomy(size, 6)
			into, allOfInto := roomy(size+1, 7)
			keptRow, keptInto := bytes.Clone(allOfRow), bytes.Clone(allOfInto)
			for _, got := range [][]byte{f.Scale(c, r), f.Fold(c, r, into), f.Fold(c, into, r), {f.Dot(r, into)}} {
				again := append(got, "behind it"...)
				for _, b := range [][]byte{got, again} {
					for i := range b {
						b[i] = ^b[i]
					}
				}
			}
			if !bytes.Equal(allOfRow, keptRow) || !bytes.Equal(allOfInto, keptInto) {
				t.Fatalf("with %d, of %d bytes: what was handed in was changed", c, size)
			}
		}
	}
}

func TestAnswersAreNewMemory(t *testing.T) {
	f := field.New()
	r, into := row(20, 8), row(20, 9)
	for _, c := range some() {
		for name, call := range map[string]func() []byte{
			"Scale": func() []byte { return f.Scale(c, r) },
			"Fold":  func() []byte { return f.Fold(c, r, into) },
		} {
			first := call()
			kept := bytes.Clone(first)
			second := call()
			clear(second[:cap(second)])
			if !bytes.Equal(first, kept) {
				t.Errorf("%s with %d: two answers share memory", name, c)
			}
			if third := call(); !bytes.Equal(third, kept) {
				t.Errorf("%s with %d: %x, and then %x", name, c, kept, third)
			}
		}
	}
}

func TestWhatWasHandedInIsNotKept(t *testing.T) {
	f := field.New()
	r, into := row(20, 8), row(20, 9)
	scaled, folded := f.Scale(1, r), f.Fold(0, r, into)
	keptScaled, keptFolded := bytes.Clone(scaled), bytes.Clone(folded)
	clear(r)
	clear(into)
	if !bytes.Equal(scaled, keptScaled) || !bytes.Equal(folded, keptFolded) {
		t.Error("an answer goes with what was handed in")
	}
	if got := f.Scale(1, r); !bytes.Equal(got, r) {
		t.Errorf("Scale of a row that was changed = %x", got)
	}
}

// P3.3

// isNobodys tells what goes wrong at a Field that New didn't make.
func isNobodys(t *testing.T, name string, f *field.Field) {
	t.Helper()
	for _, a := range some() {
		for _, b := range some() {
			if got := f.Mul(a, b); got != 0 {
				t.Errorf("%s: %d times %d = %d", name, a, b, got)
			}
			if got, e := f.Div(a, b); got != 0 || e != api.ErrNil {
				t.Errorf("%s: %d by %d = %d, %d", name, a, b, got, e)
			}
		}
		for _, n := range []int{0, 1, 2, 255, -1, math.MaxInt, math.MinInt} {
			if got, e := f.Pow(a, n); got != 0 || e != api.ErrNil {
				t.Errorf("%s: %d to %d = %d, %d", name, a, n, got, e)
			}
		}
		for _, r := range [][]byte{nil, {}, {1}, {1, 2, 3}} {
			scaled, folded, dot := f.Scale(a, r), f.Fold(a, r, []byte{4, 5}), f.Dot(r, []byte{4, 5})
			if len(scaled) != 0 || len(folded) != 0 || dot != 0 {
				t.Errorf("%s: with %d and %v: %v, %v, %d", name, a, r, scaled, folded, dot)
			}
		}
	}
}

func TestNobodysField(t *testing.T) {
	var none *field.Field
	var zero field.Field
	isNobodys(t, "nil", none)
	isNobodys(t, "zero", &zero)
	// One that New made, and used, makes none of the others.
	f := field.New()
	if f == nil || f.Mul(3, 7) != product(3, 7) {
		t.Fatal("New's Field doesn't multiply")
	}
	isNobodys(t, "nil beside one", none)
	isNobodys(t, "zero beside one", &zero)
	isNobodys(t, "new beside one", new(field.Field))
	if zero != (field.Field{}) {
		t.Error("a zero Field was changed")
	}
}

// R4, and the first use

func TestFieldsBesideOneAnother(t *testing.T) {
	first := field.New()
	for a := range 256 {
		first.Mul(uint8(a), 2)
	}
	second := field.New()
	if first == second {
		t.Fatal("New answers the same Field twice")
	}
	for a := range 256 {
		for b := range 256 {
			want := product(uint8(a), uint8(b))
			if one, two := first.Mul(uint8(a), uint8(b)), second.Mul(uint8(a), uint8(b)); one != want || two != want {
				t.Fatalf("%d times %d = %d and %d, want %d", a, b, one, two, want)
			}
		}
	}
}

func TestEachCallMayBeTheFirst(t *testing.T) {
	for range 2 {
		if got := field.New().Mul(2, 128); got != 29 {
			t.Errorf("Mul first: %d", got)
		}
		if got, e := field.New().Div(1, 2); got != 142 || e != api.OK {
			t.Errorf("Div first: %d, %d", got, e)
		}
		if got, e := field.New().Pow(2, 8); got != 29 || e != api.OK {
			t.Errorf("Pow first: %d, %d", got, e)
		}
		if got := field.New().Scale(2, []byte{128, 1}); !bytes.Equal(got, []byte{29, 2}) {
			t.Errorf("Scale first: %v", got)
		}
		if got := field.New().Fold(2, []byte{128, 1}, []byte{1, 2}); !bytes.Equal(got, []byte{28, 0}) {
			t.Errorf("Fold first: %v", got)
		}
		if got := field.New().Dot([]byte{2, 3}, []byte{128, 1}); got != 30 {
			t.Errorf("Dot first: %v", got)
		}
	}
}

func TestManyUseOneFieldFirst(t *testing.T) {
	for range 50 {
		f := field.New()
		var all sync.WaitGroup
		got := make([][]byte, 8)
		for i := range got {
			all.Go(func() { got[i] = f.Scale(uint8(i+2), some()) })
		}
		all.Wait()
		for i, b := range got {
			for j, x := range some() {
				if b[j] != product(uint8(i+2), x) {
					t.Fatalf("%d times %d = %d", i+2, x, b[j])
				}
			}
		}
	}
}

// P3.4

func TestLaws(t *testing.T) {
	f := field.New()
	for i := range 256 {
		a := uint8(i)
		if f.Mul(a, 0) != 0 || f.Mul(0, a) != 0 || f.Mul(a, 1) != a || f.Mul(1, a) != a {
			t.Errorf("%d times 0 and 1", a)
		}
		for j := range 256 {
			b := uint8(j)
			if f.Mul(a, b) != f.Mul(b, a) {
				t.Fatalf("%d and %d aren't commutative", a, b)
			}
			if a != 0 && b != 0 && f.Mul(a, b) == 0 {
				t.Fatalf("%d times %d is 0", a, b)
			}
			for _, c := range some() {
				if f.Mul(f.Mul(a, b), c) != f.Mul(a, f.Mul(b, c)) {
					t.Fatalf("%d, %d and %d aren't associative", a, b, c)
				}
				if f.Mul(a, b^c) != f.Mul(a, b)^f.Mul(a, c) {
					t.Fatalf("%d doesn't go over the sum of %d and %d", a, b, c)
				}
			}
		}
	}
}

func TestEachNumberHasOneInverse(t *testing.T) {
	f := field.New()
	met := [256]bool{}
	for i := 1; i < 256; i++ {
		a := uint8(i)
		back, e := f.Div(1, a)
		other, e2 := f.Pow(a, -1)
		if e != api.OK || e2 != api.OK || back != other || f.Mul(a, back) != 1 {
			t.Errorf("%d: 1 by it %d, to -1 %d", a, back, other)
		}
		if met[back] || back == 0 {
			t.Errorf("%d is the inverse of two", back)
		}
		met[back] = true
		if again, _ := f.Pow(back, -1); again != a {
			t.Errorf("the inverse of the inverse of %d is %d", a, again)
		}
	}
}

func TestPowersMultiply(t *testing.T) {
	f := field.New()
	few := []int{0, 1, 2, 3, 17, 51, 85, 127, 254, 255, 256, 1000, 1 << 30, -1, -2, -17, -254, -255, -256, -(1 << 30)}
	for i := 1; i < 256; i++ {
		a := uint8(i)
		for _, n := range few {
			up, _ := f.Pow(a, n)
			for _, m := range few {
				other, _ := f.Pow(a, m)
				both, e := f.Pow(a, n+m)
				if e != api.OK || f.Mul(up, other) != both {
					t.Fatalf("%d to %d, times it to %d, isn't it to their sum", a, n, m)
				}
				over, e := f.Pow(up, m)
				if whole, _ := f.Pow(a, n*m); e != api.OK || over != whole {
					t.Fatalf("%d to %d, and that to %d, isn't it to their product", a, n, m)
				}
			}
		}
	}
}

func TestPowersOfTwoAreAllNumbers(t *testing.T) {
	f := field.New()
	met := [256]bool{}
	for n := range 255 {
		p, _ := f.Pow(2, n)
		if p == 0 || met[p] {
			t.Errorf("2 to %d = %d, which was there", n, p)
		}
		met[p] = true
	}
}

func TestRowsGoOverSums(t *testing.T) {
	f := field.New()
	for _, size := range sizes() {
		a, b, d := row(size, 10), row(size, 11), row(size, 12)
		for _, c := range some() {
			if !bytes.Equal(f.Scale(c, sum(a, b)), sum(f.Scale(c, a), f.Scale(c, b))) {
				t.Errorf("%d times a sum of %d bytes", c, size)
			}
			if !bytes.Equal(f.Fold(c, a, b), sum(b, f.Scale(c, a))) {
				t.Errorf("%d times a row of %d bytes, added: not the sum", c, size)
			}
			if !bytes.Equal(f.Fold(c, a, f.Fold(c, a, b)), b) {
				t.Errorf("%d times a row of %d bytes, added twice, leaves something", c, size)
			}
			if !bytes.Equal(f.Fold(c, sum(a, d), b), f.Fold(c, d, f.Fold(c, a, b))) {
				t.Errorf("%d times a sum of %d bytes, added: not one by one", c, size)
			}
			for _, k := range some() {
				if !bytes.Equal(f.Scale(c^k, a), sum(f.Scale(c, a), f.Scale(k, a))) || !bytes.Equal(f.Scale(c, f.Scale(k, a)), f.Scale(f.Mul(c, k), a)) {
					t.Errorf("%d and %d times a row of %d bytes", c, k, size)
				}
			}
			if f.Dot(f.Scale(c, a), b) != f.Mul(c, f.Dot(a, b)) {
				t.Errorf("%d times a row of %d bytes, with another one", c, size)
			}
		}
		if f.Dot(sum(a, b), d) != f.Dot(a, d)^f.Dot(b, d) || f.Dot(a, b) != f.Dot(b, a) {
			t.Errorf("sums of %d bytes with another row", size)
		}
	}
}

func TestLongRows(t *testing.T) {
	f := field.New()
	a, b := row(1<<20, 13), row(1<<20-5, 14)
	scaled, folded := f.Scale(29, a), f.Fold(29, b, a)
	var dot uint8
	for i := range a {
		want := a[i]
		if i < len(b) {
			dot ^= product(a[i], b[i])
			want ^= product(29, b[i])
		}
		if scaled[i] != product(29, a[i]) || folded[i] != want {
			t.Fatalf("byte %d of a long row: %d and %d", i, scaled[i], folded[i])
		}
	}
	if got := f.Dot(a, b); got != dot {
		t.Errorf("Dot of long rows = %d, want %d", got, dot)
	}
}
