package code_test

import (
	"bytes"
	"fmt"
	"math"
	"slices"
	"testing"

	"ciborium/api"
	"ciborium/code"
	"ciborium/field"
)

const polynomial = 0x11d

// widest is how wide a text's rows are at most.
const widest = 65536

// product is the product of two bytes, bit by bit: slow, and plain.
func product(a, b uint8) uint8 {
	whole := 0
	for bit := range 8 {
		if b>>bit&1 == 1 {
			whole ^= int(a) << bit
		}
	}
	for bit := 15; bit >= 8; bit-- {
		if whole>>bit&1 == 1 {
			whole ^= polynomial << (bit - 8)
		}
	}
	return uint8(whole)
}

// products are all of them, as great coders ask for many.
var products = func() (all [256][256]uint8) {
	for a := range all {
		for b := range all[a] {
			all[a][b] = product(uint8(a), uint8(b))
		}
	}
	return all
}()

// inverse looks for the byte whose product with a is 1.
func inverse(a uint8) uint8 {
	for b := range 256 {
		if products[a][b] == 1 {
			return uint8(b)
		}
	}
	return 0
}

// size is how many rows of data there are, and how many of parity.
type size struct{ k, m int }

// small are the sizes of all coders of few rows.
func small() []size {
	var all []size
	for k := 1; k <= 6; k++ {
		for m := 1; m <= 5; m++ {
			all = append(all, size{k, m})
		}
	}
	return all
}

// great are sizes of coders of many rows.
func great() []size {
	return []size{{1, 254}, {254, 1}, {2, 253}, {253, 2}, {127, 128}, {128, 127}, {100, 100}, {16, 239}, {200, 54}}
}

// coder answers a coder that there must be.
func coder(t *testing.T, s size) *code.Coder {
	t.Helper()
	c := code.New(field.New(), s.k, s.m)
	if c == nil {
		t.Fatalf("no coder of %d and %d", s.k, s.m)
	}
	return c
}

// text answers so many bytes, the same ones each time; none of them is 0, so that noughts behind them are seen.
func text(size int, seed uint32) []byte {
	b := make([]byte, size)
	for i := range b {
		seed = seed*1664525 + 1013904223
		b[i] = byte(seed>>16%255) + 1
	}
	return b
}

// rows answers so many rows of so many bytes, noughts among them.
func rows(many, width int, seed uint32) [][]byte {
	all := make([][]byte, many)
	for i := range all {
		all[i] = text(width, seed+uint32(i)*7919)
		for j := range all[i] {
			all[i][j]--
		}
	}
	return all
}

// noughts answers so many rows of so many noughts.
func noughts(many, width int) [][]byte {
	all := make([][]byte, many)
	for i := range all {
		all[i] = make([]byte, width)
	}
	return all
}

// plainParity is what the parity of rows of data is to be, byte by byte.
func plainParity(s size, data [][]byte) [][]byte {
	parity := noughts(s.m, len(data[0]))
	for i := range parity {
		for j, row := range data {
			factor := inverse(uint8((s.k + i) ^ j))
			for at, x := range row {
				parity[i][at] ^= products[factor][x]
			}
		}
	}
	return parity
}

// sum is the exclusive or of two lists of rows.
func sum(a, b [][]byte) [][]byte {
	all := clone(a)
	for i, row := range b {
		for at, x := range row {
			all[i][at] ^= x
		}
	}
	return all
}

// same tells whether two lists of rows are the same.
func same(a, b [][]byte) bool { return slices.EqualFunc(a, b, bytes.Equal) }

// clone answers a copy, with its own memory.
func clone(a [][]byte) [][]byte {
	all := make([][]byte, len(a))
	for i, row := range a {
		all[i] = bytes.Clone(row)
	}
	return all
}

// brief answers what is told of rows: how many there are, and the beginnings of the first ones.
func brief(list [][]byte) string {
	told := fmt.Sprint(len(list), " rows:")
	for _, row := range list[:min(len(list), 6)] {
		told += fmt.Sprint(" ", len(row), " bytes ", row[:min(len(row), 12)])
	}
	return told
}

// are tells what goes wrong with an answer that is to be rows.
func are(t *testing.T, name string, got [][]byte, e api.Errno, want [][]byte) {
	t.Helper()
	if e != api.OK || !same(got, want) {
		t.Errorf("%s = %s, %d, want %s", name, brief(got), e, brief(want))
	}
}

// is tells what goes wrong with an answer that is to be a text.
func is(t *testing.T, name string, got []byte, e api.Errno, want []byte) {
	t.Helper()
	are(t, name, [][]byte{got}, e, [][]byte{want})
}

// fails tells what goes wrong with an answer that is to be an error.
func fails[T any](t *testing.T, name string, got []T, e api.Errno, want api.Errno) {
	t.Helper()
	if e != want || len(got) != 0 {
		t.Errorf("%s answers %d of them, %d, want none, %d", name, len(got), e, want)
	}
}

// The example

func TestExample(t *testing.T) {
	c := coder(t, size{1, 1})
	if got := c.Row(1); !bytes.Equal(got, []byte{1}) {
		t.Errorf("Row(1) = %v", got)
	}
	data := [][]byte{{5, 0, 255, 128}}
	got, e := c.Encode(data)
	are(t, "Encode", got, e, data)
	got, e = c.All(data)
	are(t, "All", got, e, [][]byte{data[0], data[0]})
}

// P5.1

func TestNew(t *testing.T) {
	for _, s := range append(append(small(), great()...), size{1, 1}, size{1, 253}, size{253, 1}, size{127, 127}) {
		f := field.New()
		c := code.New(f, s.k, s.m)
		if c == nil {
			t.Errorf("no coder of %d and %d", s.k, s.m)
			continue
		}
		if c.K() != s.k || c.M() != s.m || c.N() != s.k+s.m {
			t.Errorf("a coder of %d and %d has %d and %d, %d in all", s.k, s.m, c.K(), c.M(), c.N())
		}
		if c.Field() != f {
			t.Errorf("a coder of %d and %d has another field", s.k, s.m)
		}
	}
}

// bad are sizes that no coder has.
func bad() []size {
	return []size{
		{0, 0}, {0, 1}, {1, 0}, {0, 254}, {254, 0}, {0, 255}, {255, 0}, {0, 5}, {5, 0},
		{-1, 1}, {1, -1}, {-1, -1}, {-1, 3}, {3, -1}, {-5, 10}, {10, -5}, {300, -100}, {-100, 300}, {-1, 256}, {256, -1}, {-2, -3},
		{255, 1}, {1, 255}, {128, 128}, {127, 129}, {129, 127}, {254, 2}, {2, 254}, {255, 255}, {256, 1}, {1, 256}, {256, 256}, {257, 1}, {1, 257}, {1000, 1000},
		{1<<32 + 1, 1}, {1, 1<<32 + 1}, {1<<32 + 2, 1<<32 + 2}, {1 << 62, 1 << 62}, {1 << 62, 1}, {1, 1 << 62},
		{math.MaxInt, 1}, {1, math.MaxInt}, {math.MaxInt, math.MaxInt}, {math.MaxInt, 2}, {254, math.MaxInt}, {math.MaxInt, 254},
		{math.MinInt, 1}, {1, math.MinInt}, {math.MinInt, math.MinInt}, {math.MinInt, math.MaxInt}, {math.MaxInt, math.MinInt}, {math.MaxInt, -math.MaxInt + 4}, {-math.MaxInt + 4, math.MaxInt},
		{math.MinInt, 0}, {0, math.MinInt}, {math.MaxInt, 0}, {0, math.MaxInt}, {-1 << 32, 1<<32 + 4}, {1<<8 + 1, 1}, {1, 1<<16 + 1},
	}
}

func TestNewOfBadSizes(t *testing.T) {
	f := field.New()
	for _, s := range bad() {
		if c := code.New(f, s.k, s.m); c != nil {
			t.Errorf("a coder of %d and %d has %d in all", s.k, s.m, c.N())
		}
	}
}

// nobodys are fields that nobody made.
func nobodys() map[string]*field.Field {
	var zero field.Field
	return map[string]*field.Field{"nil": nil, "zero": &zero, "new": new(field.Field)}
}

func TestNewOfNobodysField(t *testing.T) {
	for name, f := range nobodys() {
		for _, s := range append(append(small(), great()...), bad()...) {
			if code.New(f, s.k, s.m) != nil {
				t.Errorf("%s: a coder of %d and %d", name, s.k, s.m)
			}
		}
		if f != nil && *f != (field.Field{}) {
			t.Errorf("%s: the field was changed", name)
		}
	}
}

func TestRow(t *testing.T) {
	for _, s := range append(small(), great()...) {
		c := coder(t, s)
		for i := range s.k + s.m {
			want := make([]byte, s.k)
			for j := range want {
				if i >= s.k {
					want[j] = inverse(uint8(i ^ j))
				} else if i == j {
					want[j] = 1
				}
			}
			if got := c.Row(i); !bytes.Equal(got, want) {
				t.Errorf("%v: Row(%d) = %v, want %v", s, i, got, want)
			}
		}
	}
}

func TestFactorsAreInverses(t *testing.T) {
	for _, s := range append(small(), great()...) {
		c := coder(t, s)
		for i := s.k; i < s.k+s.m; i++ {
			row := c.Row(i)
			if len(row) != s.k {
				t.Fatalf("%v: Row(%d) has %d factors", s, i, len(row))
			}
			for j, factor := range row {
				if products[factor][i^j] != 1 {
					t.Errorf("%v: in Row(%d) the factor of row %d is %d", s, i, j, factor)
				}
			}
		}
	}
}

func TestRowThatThereIsNot(t *testing.T) {
	for _, s := range append(small(), great()...) {
		c, n := coder(t, s), s.k+s.m
		for _, i := range []int{-1, -2, -s.k, -n, n, n + 1, n + s.k, 255, 256, 256 + s.k, 257, 511, 512, 1 << 16, 1 << 32, 1<<32 + s.k, 1 << 62, math.MaxInt, math.MinInt, math.MinInt + 1} {
			if got := c.Row(i); len(got) != 0 {
				t.Errorf("%v: Row(%d) = %v", s, i, got)
			}
		}
		for _, i := range []int{0, s.k - 1, s.k, n - 1} {
			if got := c.Row(i); len(got) != s.k {
				t.Errorf("%v: Row(%d) = %v", s, i, got)
			}
		}
	}
}

// P5.2

func TestEncodeOfKnownRows(t *testing.T) {
	// 2 and 0, 1: 142, 244; 3 and 0, 1: 244, 142 (P4.3).
	c := coder(t, size{2, 2})
	got, e := c.Encode([][]byte{{1, 0, 2, 1, 2}, {0, 1, 0, 1, 3}})
	are(t, "Encode", got, e, [][]byte{{142, 244, 1, 142 ^ 244, 1 ^ 1}, {244, 142, 245, 142 ^ 244, 245 ^ 143}})
	got, e = c.All([][]byte{{1, 0}, {2, 0}})
	are(t, "All", got, e, [][]byte{{1, 0}, {2, 0}, {123, 0}, {245, 0}})
}

// plainlyEncoded holds what a coder makes of data against plain sums of products.
func plainlyEncoded(t *testing.T, s size, data [][]byte) {
	t.Helper()
	c, want := coder(t, s), plainParity(s, data)
	parity, e := c.Encode(data)
	are(t, "Encode", parity, e, want)
	all, e := c.All(data)
	are(t, "All", all, e, slices.Concat(data, want))
}

func TestEncodeIsPlain(t *testing.T) {
	for _, s := range small() {
		for width := range 20 {
			plainlyEncoded(t, s, rows(s.k, width, uint32(width)))
		}
		plainlyEncoded(t, s, rows(s.k, 300, 21))
		plainlyEncoded(t, s, rows(s.k, widest+1, 22)) // Split alone asks for rows that are not so wide
	}
	for _, s := range great() {
		plainlyEncoded(t, s, rows(s.k, 0, 23))
		plainlyEncoded(t, s, rows(s.k, 1, 24))
		plainlyEncoded(t, s, rows(s.k, 44, 25))
	}
}

func TestEncodeGoesByRow(t *testing.T) {
	for _, s := range append(small(), size{128, 127}) {
		c, f, data := coder(t, s), field.New(), rows(s.k, 9, 30)
		all, e := c.All(data)
		if e != api.OK || len(all) != s.k+s.m {
			t.Fatalf("%v: All answers %d rows, %d", s, len(all), e)
		}
		for i, row := range all {
			want := make([]byte, 9)
			for j, factor := range c.Row(i) {
				want = f.Fold(factor, data[j], want)
			}
			if !bytes.Equal(row, want) {
				t.Errorf("%v: row %d is %v, by Row it is %v", s, i, row, want)
			}
		}
	}
}

func TestEncodeOfUnits(t *testing.T) {
	for _, s := range small() {
		c := coder(t, s)
		for j := range s.k {
			data := noughts(s.k, 1)
			data[j][0] = 1
			parity, e := c.Encode(data)
			if e != api.OK || len(parity) != s.m {
				t.Fatalf("%v: Encode answers %d rows, %d", s, len(parity), e)
			}
			for i, row := range parity {
				if len(row) != 1 || row[0] != inverse(uint8((s.k+i)^j)) {
					t.Errorf("%v: a 1 in row %d makes %v in row %d", s, j, row, s.k+i)
				}
			}
		}
	}
}

func TestEncodeOfRowsWithoutBytes(t *testing.T) {
	for _, s := range append(small(), great()...) {
		c := coder(t, s)
		mixed := make([][]byte, s.k)
		for j := range mixed {
			if j%2 == 1 {
				mixed[j] = []byte{}
			}
		}
		for _, data := range [][][]byte{make([][]byte, s.k), noughts(s.k, 0), mixed} {
			parity, e := c.Encode(data)
			are(t, "Encode of rows without bytes", parity, e, make([][]byte, s.m))
			all, e := c.All(data)
			are(t, "All of rows without bytes", all, e, make([][]byte, s.k+s.m))
		}
	}
}

// unlike answers lists that aren't k rows of one length.
func unlike(s size) map[string][][]byte {
	all := map[string][][]byte{
		"nil":              nil,
		"none":             {},
		"one too few":      rows(s.k-1, 4, 1),
		"one too many":     rows(s.k+1, 4, 1),
		"n":                rows(s.k+s.m, 4, 1),
		"twice as many":    rows(2*s.k, 4, 1),
		"300":              rows(300, 4, 1),
		"k + 256":          rows(s.k+256, 4, 1),
		"many nil":         make([][]byte, s.k+1),
		"many empty":       noughts(s.k+1, 0),
		"many behind nils": append(make([][]byte, s.k), []byte{1}),
	}
	if s.k == 1 {
		return all // one row is of one length
	}
	for name, j := range map[string]int{"the first": 0, "the second": 1, "one amid": s.k / 2, "the last": s.k - 1} {
		for by, row := range map[string][]byte{"nil": nil, "empty": {}, "shorter": text(3, 9), "longer": text(5, 9), "much longer": text(260, 9)} {
			list := rows(s.k, 4, 1)
			list[j] = row
			all[name+" "+by] = list
		}
		list := make([][]byte, s.k)
		list[j] = []byte{0}
		all["nil ones but "+name] = list
	}
	return all
}

func TestEncodeOfUnlikeRows(t *testing.T) {
	for _, s := range append(small(), great()...) {
		c := coder(t, s)
		for name, data := range unlike(s) {
			got, e := c.Encode(data)
			fails(t, "Encode: "+name, got, e, api.ErrArg)
			got, e = c.All(data)
			fails(t, "All: "+name, got, e, api.ErrArg)
		}
	}
}

func TestRoomBehindRowsIsNobodys(t *testing.T) {
	c := coder(t, size{2, 1})
	two := append(rows(2, 3, 40), text(3, 41))
	got, e := c.Encode(two[:2])
	are(t, "Encode with a row behind the end", got, e, plainParity(size{2, 1}, two[:2]))
	got, e = c.Encode(two[:1])
	fails(t, "Encode of one row, with others behind the end", got, e, api.ErrArg)
	long := text(10, 42)
	got, e = c.Encode([][]byte{long[:3], text(3, 43)})
	are(t, "Encode with bytes behind the end", got, e, plainParity(size{2, 1}, [][]byte{long[:3], text(3, 43)}))
	got, e = c.Encode([][]byte{long[:3], long[:4]})
	fails(t, "Encode of unlike rows with one room", got, e, api.ErrArg)
	joined, e := c.Join([][]byte{long[:3], long[3:6]}, 7)
	fails(t, "Join of what is behind the end", joined, e, api.ErrArg)
	split, e := c.Split(long[:2], 3)
	are(t, "Split with bytes behind the end", split, e, [][]byte{{long[0], long[1], 0}, {0, 0, 0}})
}

// P5.3

func TestSplit(t *testing.T) {
	c := coder(t, size{3, 2})
	for _, x := range []struct {
		b     string
		width int
		want  []string
	}{
		{"", 1, []string{"\x00", "\x00", "\x00"}},
		{"", 4, []string{"\x00\x00\x00\x00", "\x00\x00\x00\x00", "\x00\x00\x00\x00"}},
		{"a", 1, []string{"a", "\x00", "\x00"}},
		{"ab", 1, []string{"a", "b", "\x00"}},
		{"abc", 1, []string{"a", "b", "c"}},
		{"abc", 2, []string{"ab", "c\x00", "\x00\x00"}},
		{"abcd", 2, []string{"ab", "cd", "\x00\x00"}},
		{"abcde", 2, []string{"ab", "cd", "e\x00"}},
		{"abcdef", 2, []string{"ab", "cd", "ef"}},
		{"abc", 3, []string{"abc", "\x00\x00\x00", "\x00\x00\x00"}},
		{"abcd", 5, []string{"abcd\x00", "\x00\x00\x00\x00\x00", "\x00\x00\x00\x00\x00"}},
	} {
		want := make([][]byte, 3)
		for i, row := range x.want {
			want[i] = []byte(row)
		}
		got, e := c.Split([]byte(x.b), x.width)
		are(t, "Split of "+x.b, got, e, want)
	}
	got, e := c.Split(nil, 2)
	are(t, "Split of nil", got, e, noughts(3, 2))
}

// plainlySplit is what a text is to be split into, byte by byte.
func plainlySplit(k, width int, b []byte) [][]byte {
	all := noughts(k, width)
	for at, x := range b {
		all[at/width][at%width] = x
	}
	return all
}

// ends are lengths of texts that end within a row, at its end, and at the end of all.
func ends(k, width int) []int {
	var all []int
	for _, size := range []int{0, 1, width - 1, width, width + 1, 2*width - 1, 2 * width, (k - 1) * width, (k-1)*width + 1, k*width - 1, k * width} {
		if 0 <= size && size <= k*width {
			all = append(all, size)
		}
	}
	return all
}

// widths are widths that rows may have, for coders that aren't great.
func widths() []int { return []int{1, 2, 3, 7, 44, 64, 255, 256, 257, 1000, 65535, widest} }

func TestSplitAtEnds(t *testing.T) {
	for _, s := range []size{{1, 1}, {1, 4}, {2, 1}, {3, 2}, {5, 3}} {
		c := coder(t, s)
		for _, width := range widths() {
			for _, size := range ends(s.k, width) {
				b := text(size, uint32(width))
				got, e := c.Split(b, width)
				are(t, "Split", got, e, plainlySplit(s.k, width, b))
			}
		}
	}
	for _, s := range great() {
		c := coder(t, s)
		for _, width := range []int{1, 2, 44, 300} {
			for _, size := range ends(s.k, width) {
				b := text(size, uint32(width))
				got, e := c.Split(b, width)
				are(t, "Split", got, e, plainlySplit(s.k, width, b))
			}
		}
	}
}

func TestSplitOfTooMuch(t *testing.T) {
	for _, s := range append(small(), great()...) {
		c := coder(t, s)
		for _, width := range []int{1, 2, 44, 300} {
			for _, more := range []int{1, 2, width, s.m * width, 256, 1 << 16} {
				got, e := c.Split(text(s.k*width+more, 1), width)
				fails(t, "Split of too long a text", got, e, api.ErrLarge)
			}
		}
	}
	for _, k := range []int{1, 2, 3} {
		c, b := coder(t, size{k, 1}), text(k*widest+1, 2)
		got, e := c.Split(b[:k*widest], widest)
		are(t, "Split of all that goes into rows", got, e, plainlySplit(k, widest, b[:k*widest]))
		got, e = c.Split(b, widest)
		fails(t, "Split of a byte more", got, e, api.ErrLarge)
	}
}

func TestSplitIntoMostRows(t *testing.T) {
	c, b := coder(t, size{254, 1}), text(254*widest, 3)
	got, e := c.Split(b, widest)
	if e != api.OK || !bytes.Equal(bytes.Join(got, nil), b) || len(got) != 254 {
		t.Errorf("Split into the most and the widest rows: %d rows, %d", len(got), e)
	}
	joined, e := c.Join(got, len(b))
	if e != api.OK || !bytes.Equal(joined, b) {
		t.Errorf("Join of the most and the widest rows: %d bytes, %d", len(joined), e)
	}
}

func TestSplitIntoBadWidths(t *testing.T) {
	for _, s := range []size{{1, 1}, {2, 1}, {4, 4}, {254, 1}, {128, 127}} {
		c := coder(t, s)
		// Too long a text is told behind a width that may not be: ErrArg comes first.
		for _, b := range [][]byte{nil, {}, text(1, 1), text(1000, 1), text(widest*5, 1)} {
			for _, width := range []int{0, -1, -2, -44, -widest, widest + 1, widest + 2, 2 * widest, 1 << 32, 1<<32 + 1, 1 << 62, math.MaxInt, math.MaxInt/2 + 1, math.MinInt, math.MinInt + 1, math.MinInt / 2} {
				got, e := c.Split(b, width)
				fails(t, "Split into bad widths", got, e, api.ErrArg)
			}
		}
	}
}

func TestJoin(t *testing.T) {
	c := coder(t, size{3, 2})
	list := [][]byte{[]byte("ab"), []byte("cd"), []byte("ef")}
	for size, want := range []string{"", "a", "ab", "abc", "abcd", "abcde", "abcdef"} {
		got, e := c.Join(list, size)
		is(t, "Join", got, e, []byte(want))
	}
	for _, size := range []int{7, 8, 9, 10, 12, 256, 262, 1 << 32, 1<<32 + 1, math.MaxInt, -1, -2, -6, -256, math.MinInt, math.MinInt + 1} {
		got, e := c.Join(list, size)
		fails(t, "Join of a bad size", got, e, api.ErrArg)
	}
}

func TestJoinOfAllSizes(t *testing.T) {
	for _, s := range append(small(), great()...) {
		c := coder(t, s)
		for _, width := range []int{1, 2, 3, 44} {
			list := rows(s.k, width, 50)
			whole := bytes.Join(list, nil)
			for _, size := range ends(s.k, width) {
				got, e := c.Join(list, size)
				is(t, "Join", got, e, whole[:size])
			}
			for _, size := range []int{len(whole) + 1, (s.k+1)*width + 1, (s.k + s.m) * width, -1, -width, math.MaxInt, math.MinInt} {
				got, e := c.Join(list, size)
				fails(t, "Join of a bad size", got, e, api.ErrArg)
			}
		}
	}
}

func TestJoinOfRowsWithoutBytes(t *testing.T) {
	for _, s := range append(small(), great()...) {
		c := coder(t, s)
		for _, list := range [][][]byte{make([][]byte, s.k), noughts(s.k, 0)} {
			got, e := c.Join(list, 0)
			is(t, "Join of rows without bytes", got, e, nil)
			for _, size := range []int{1, -1, s.k, math.MaxInt, math.MinInt} {
				got, e = c.Join(list, size)
				fails(t, "Join of more than no bytes", got, e, api.ErrArg)
			}
		}
	}
}

func TestJoinOfUnlikeRows(t *testing.T) {
	for _, s := range append(small(), great()...) {
		c := coder(t, s)
		for name, list := range unlike(s) {
			for _, size := range []int{0, 1, 2, s.k, 4 * s.k, -1, math.MaxInt, math.MinInt} {
				got, e := c.Join(list, size)
				fails(t, "Join: "+name, got, e, api.ErrArg)
			}
		}
	}
}

func TestJoinOfWideRows(t *testing.T) {
	// Join asks for rows of one length, whatever that is.
	c, list := coder(t, size{2, 1}), rows(2, widest+3, 51)
	got, e := c.Join(list, 2*(widest+3))
	is(t, "Join of wide rows", got, e, bytes.Join(list, nil))
	got, e = c.Join(list, widest+5)
	is(t, "Join of wide rows", got, e, bytes.Join(list, nil)[:widest+5])
}

// P5.4

// nobodysCoders are coders that New didn't make.
func nobodysCoders() map[string]*code.Coder {
	var zero code.Coder
	return map[string]*code.Coder{"nil": nil, "zero": &zero, "new": new(code.Coder), "refused": code.New(field.New(), 0, 1)}
}

func TestNobodysCoder(t *testing.T) {
	for name, c := range nobodysCoders() {
		if c.K() != 0 || c.M() != 0 || c.N() != 0 {
			t.Errorf("%s: %d and %d, %d in all", name, c.K(), c.M(), c.N())
		}
		if c.Field() != nil {
			t.Errorf("%s: it has a field", name)
		}
		for _, i := range []int{0, 1, -1, 2, 254, 255, 256, math.MaxInt, math.MinInt} {
			if got := c.Row(i); len(got) != 0 {
				t.Errorf("%s: Row(%d) = %v", name, i, got)
			}
		}
		if c != nil && *c != (code.Coder{}) {
			t.Errorf("%s: it was changed", name)
		}
	}
}

func TestNobodysCoderAtTexts(t *testing.T) {
	for name, c := range nobodysCoders() {
		for _, list := range [][][]byte{nil, {}, {nil}, {{}}, {{1}}, {{1, 2}, {3, 4}}, {{1}, {}}, {nil, {1}}, rows(255, 2, 1), rows(256, 2, 1)} {
			got, e := c.Encode(list)
			fails(t, name+": Encode", got, e, api.ErrNil)
			got, e = c.All(list)
			fails(t, name+": All", got, e, api.ErrNil)
			for _, size := range []int{0, 1, 2, -1, 5, math.MaxInt, math.MinInt} {
				joined, e := c.Join(list, size)
				fails(t, name+": Join", joined, e, api.ErrNil)
			}
		}
		for _, b := range [][]byte{nil, {}, {1}, text(5, 1), text(widest+1, 1)} {
			for _, width := range []int{0, 1, 2, -1, widest, widest + 1, math.MaxInt, math.MinInt} {
				got, e := c.Split(b, width)
				fails(t, name+": Split", got, e, api.ErrNil)
			}
		}
		if c != nil && *c != (code.Coder{}) {
			t.Errorf("%s: it was changed", name)
		}
	}
}

// P5.5

func TestWhatIsSplitIsJoined(t *testing.T) {
	for _, s := range small() {
		c := coder(t, s)
		for width := 1; width <= 9; width++ {
			for size := range s.k*width + 1 {
				b := text(size, uint32(size))
				split, e := c.Split(b, width)
				if e != api.OK {
					t.Fatalf("%v: Split of %d bytes in %d: %d", s, size, width, e)
				}
				got, e := c.Join(split, size)
				is(t, "Join of what was split", got, e, b)
				all, e := c.Join(split, s.k*width)
				is(t, "Join of all that was split", all, e, append(bytes.Clone(b), make([]byte, s.k*width-size)...))
			}
		}
	}
}

func TestWhatIsJoinedIsSplit(t *testing.T) {
	for _, s := range append(small(), great()...) {
		c := coder(t, s)
		for _, width := range []int{1, 5, 44} {
			list := rows(s.k, width, 60)
			b, e := c.Join(list, s.k*width)
			if e != api.OK {
				t.Fatalf("%v: Join: %d", s, e)
			}
			got, e := c.Split(b, width)
			are(t, "Split of what was joined", got, e, list)
		}
	}
}

func TestParityGoesOverSums(t *testing.T) {
	for _, s := range append(small(), great()...) {
		c := coder(t, s)
		for seed := range uint32(4) {
			a, _ := c.Split(text(s.k*11-int(seed%2), seed), 11)
			b, _ := c.Split(text(s.k*11-s.k/2, seed+100), 11)
			parityA, eA := c.Encode(a)
			parityB, eB := c.Encode(b)
			both, e := c.Encode(sum(a, b))
			if eA != api.OK || eB != api.OK {
				t.Fatalf("%v: Encode: %d, %d", s, eA, eB)
			}
			are(t, "the parity of a sum", both, e, sum(parityA, parityB))
			all, e := c.All(sum(a, b))
			are(t, "all of a sum", all, e, sum(slices.Concat(a, parityA), slices.Concat(b, parityB)))
			none, e := c.Encode(sum(a, a))
			are(t, "the parity of what is twice there", none, e, noughts(s.m, 11))
		}
	}
}

func TestNoughtsHaveNoughts(t *testing.T) {
	for _, s := range append(small(), great()...) {
		c := coder(t, s)
		for _, width := range []int{1, 2, 44, 300} {
			got, e := c.Encode(noughts(s.k, width))
			are(t, "the parity of noughts", got, e, noughts(s.m, width))
			got, e = c.All(noughts(s.k, width))
			are(t, "all of noughts", got, e, noughts(s.k+s.m, width))
			empty, _ := c.Split(nil, width)
			got, e = c.Encode(empty)
			are(t, "the parity of no text", got, e, noughts(s.m, width))
		}
	}
}

func TestOneByteChangesAllParity(t *testing.T) {
	for _, s := range append(small(), great()...) {
		c, data := coder(t, s), rows(s.k, 3, 70)
		before, _ := c.Encode(data)
		for _, j := range []int{0, s.k / 2, s.k - 1} {
			other := clone(data)
			other[j][1] ^= 0x40
			after, e := c.Encode(other)
			if e != api.OK || len(after) != len(before) {
				t.Fatalf("%v: Encode answers %d rows, %d", s, len(after), e)
			}
			for i := range after {
				if after[i][0] != before[i][0] || after[i][1] == before[i][1] || after[i][2] != before[i][2] {
					t.Errorf("%v: row %d changed, parity %d went from %v to %v", s, j, i, before[i], after[i])
				}
			}
		}
	}
}

// R3

// roomy answers rows with room behind their ends, and all of that.
func roomy(list [][]byte) ([][]byte, [][]byte) {
	var short, all [][]byte
	for _, row := range list {
		whole := append(bytes.Clone(row), "what somebody else keeps"...)
		short, all = append(short, whole[:len(row)]), append(all, whole)
	}
	return append(short, []byte("a row behind the end"))[:len(list)], all
}

// calls answers, by its name, each call that answers rows, of these arguments; a text is a single row.
func calls(c *code.Coder, list [][]byte, b []byte, width, size int) map[string]func() ([][]byte, api.Errno) {
	return map[string]func() ([][]byte, api.Errno){
		"Row of data":   func() ([][]byte, api.Errno) { return [][]byte{c.Row(0)}, api.OK },
		"Row of parity": func() ([][]byte, api.Errno) { return [][]byte{c.Row(c.K())}, api.OK },
		"Encode":        func() ([][]byte, api.Errno) { return c.Encode(list) },
		"All":           func() ([][]byte, api.Errno) { return c.All(list) },
		"Split":         func() ([][]byte, api.Errno) { return c.Split(b, width) },
		"Join": func() ([][]byte, api.Errno) {
			joined, e := c.Join(list, size)
			return [][]byte{joined}, e
		},
	}
}

func TestNothingIsChanged(t *testing.T) {
	for _, s := range append(small(), size{128, 127}) {
		c := coder(t, s)
		for _, width := range []int{0, 1, 5} {
			for _, list := range [][][]byte{rows(s.k, width, 80), rows(s.k+1, width, 81), append(rows(s.k, width, 82)[:s.k-1], text(width+1, 83))} {
				short, all := roomy(list)
				behind := bytes.Clone(short[:len(list)+1][len(list)])
				b, wholes := roomy([][]byte{text(s.k*width, 84)})
				kept, keptShort, keptText := clone(all), clone(short), clone(wholes)
				for name, call := range calls(c, short, b[0], max(width, 1), s.k*width) {
					got, _ := call()
					for i, row := range got {
						row = append(row, "behind"...)
						for at := range row {
							row[at] = ^row[at]
						}
						got[i] = nil
					}
					_ = append(got, []byte("behind"))
					if !same(all, kept) || !same(short, keptShort) || !same(wholes, keptText) || !bytes.Equal(short[:len(list)+1][len(list)], behind) {
						t.Fatalf("%v: %s: what was handed in was changed", s, name)
					}
				}
			}
		}
	}
}

func TestAnswersAreNewMemory(t *testing.T) {
	for _, s := range append(small(), size{128, 127}) {
		c, width := coder(t, s), 5
		for name, call := range calls(c, rows(s.k, width, 90), text(s.k*width, 91), width, s.k*width) {
			first, e := call()
			kept := clone(first)
			second, _ := call()
			for i, row := range second {
				clear(row[:cap(row)])
				second[i] = nil
			}
			are(t, name, first, e, kept)
			third, e := call()
			are(t, name+" again", third, e, kept)
		}
	}
}

func TestRowsOfAnAnswerShareNothing(t *testing.T) {
	for _, s := range append(small(), size{128, 127}) {
		c, width := coder(t, s), 5
		one := text(width, 95)
		list := make([][]byte, s.k)
		for j := range list {
			list[j] = one // a row that stands in several places is several rows in the answer
		}
		for name, call := range calls(c, list, text(s.k*width, 96), width, s.k*width) {
			got, e := call()
			want := clone(got)
			for i, row := range got {
				for at := range cap(row) {
					row[:cap(row)][at] ^= 0xff
				}
				for other := i + 1; other < len(got); other++ {
					if !bytes.Equal(got[other], want[other]) {
						t.Fatalf("%v: %s: row %d goes with row %d, %d", s, name, other, i, e)
					}
				}
			}
		}
	}
}

func TestWhatWasHandedInIsNotKept(t *testing.T) {
	for _, s := range append(small(), size{128, 127}) {
		c, width := coder(t, s), 5
		list, b := rows(s.k, width, 97), text(s.k*width, 98)
		kept := map[string][2][][]byte{}
		for name, call := range calls(c, list, b, width, s.k*width) {
			got, _ := call()
			kept[name] = [2][][]byte{got, clone(got)}
		}
		for _, row := range list {
			clear(row)
		}
		clear(list)
		clear(b)
		for name, pair := range kept {
			if !same(pair[0], pair[1]) {
				t.Errorf("%v: %s: the answer goes with what was handed in", s, name)
			}
		}
	}
}

// R4

func TestCodersAnswerTheSame(t *testing.T) {
	f := field.New()
	for _, s := range small() {
		list, b := rows(s.k, 6, 99), text(s.k*6, 100)
		one, two, other := code.New(f, s.k, s.m), code.New(f, s.k, s.m), code.New(field.New(), s.k, s.m)
		beside := code.New(f, s.m, s.k) // of other numbers, with the same field: it changes nothing for the others
		beside.Encode(rows(s.m, 6, 101))
		for name, call := range calls(one, list, b, 6, s.k*6) {
			first, e := call()
			for _, c := range []*code.Coder{one, two, other} {
				again, e2 := calls(c, list, b, 6, s.k*6)[name]()
				if e != e2 || !same(first, again) {
					t.Errorf("%v: %s: %s, %d, then %s, %d", s, name, brief(first), e, brief(again), e2)
				}
			}
		}
		if one == two || one.K() != s.k || beside.K() != s.m || beside.M() != s.k {
			t.Errorf("%v: coders know of one another", s)
		}
	}
}
