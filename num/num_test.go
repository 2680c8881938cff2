package num_test

import (
	"bytes"
	"math"
	"strings"
	"testing"

	"ciborium/api"
	"ciborium/num"
)

// edges are numbers at which the count of groups or of bytes changes, and a few between.
func edges() []uint64 {
	l := []uint64{0, 1, 2, 5, 100, 258, 300, 0x0123456789abcdef, math.MaxInt64, 1 << 63, math.MaxUint64 - 1, math.MaxUint64}
	for bit := 1; bit < 64; bit++ {
		l = append(l, 1<<bit-1, 1<<bit, 1<<bit+1)
	}
	return l
}

// few answers all strings of at most longest bytes, of some bytes that stand for all kinds.
func few(longest int) [][]byte {
	all := [][]byte{nil}
	last := all
	for range longest {
		var next [][]byte
		for _, b := range last {
			for _, x := range []byte{0, 1, 2, 3, 127, 128, 129, 255} {
				next = append(next, append(bytes.Clone(b), x))
			}
		}
		all = append(all, next...)
		last = next
	}
	return all
}

// P1.1

func TestPut(t *testing.T) {
	for _, c := range []struct {
		out   string
		width int
		n     uint64
		want  string
	}{
		{"", 3, 258, "\x02\x01\x00"},
		{"", 1, 258, "\x02"},
		{"ab", 1, 0, "ab\x00"},
		{"ab", 2, 0x10203, "ab\x03\x02"},
		{"", 4, math.MaxUint64, "\xff\xff\xff\xff"},
		{"x", 7, 0x0807060504030201, "x\x01\x02\x03\x04\x05\x06\x07"},
		{"x", 8, 0x0807060504030201, "x\x01\x02\x03\x04\x05\x06\x07\x08"},
		{"x", 8, 1, "x\x01\x00\x00\x00\x00\x00\x00\x00"},
		{"x", 0, 7, "x"},
		{"x", 9, 7, "x"},
		{"x", 16, 7, "x"},
		{"x", -1, 7, "x"},
		{"x", math.MinInt, 7, "x"},
		{"x", math.MaxInt, 7, "x"},
		{"", 0, 7, ""},
	} {
		if got := num.Put([]byte(c.out), c.width, c.n); string(got) != c.want {
			t.Errorf("Put(%q, %d, %d) = %x, want %x", c.out, c.width, c.n, got, c.want)
		}
	}
	if got := num.Put(nil, 2, 1); string(got) != "\x01\x00" {
		t.Errorf("Put behind nil = %x", got)
	}
	if got := num.Put(nil, 9, 1); len(got) != 0 {
		t.Errorf("Put of no width behind nil = %x", got)
	}
}

func TestGet(t *testing.T) {
	for _, c := range []struct {
		b         string
		at, width int
		want      uint64
		e         api.Errno
	}{
		{"\x02\x01\x00", 0, 3, 258, api.OK},
		{"\x09\x02\x01", 1, 2, 258, api.OK},
		{"\x09\x02\x01", 2, 1, 1, api.OK},
		{"\x09\x02\x01", 0, 1, 9, api.OK},
		{"\xff\xff\xff\xff\xff\xff\xff\xff", 0, 8, math.MaxUint64, api.OK},
		{"\x00\x00\x00\x00\x00\x00\x00\x80\x01", 0, 8, 1 << 63, api.OK},
		{"\x09\x02\x01", 2, 2, 0, api.ErrShort},
		{"\x09\x02\x01", 3, 1, 0, api.ErrShort},
		{"\x09\x02\x01", 0, 8, 0, api.ErrShort},
		{"\xff\xff\xff\xff\xff\xff\xff", 0, 8, 0, api.ErrShort},
		{"\x09\x02\x01", 4, 1, 0, api.ErrArg},
		{"\x09\x02\x01", -1, 1, 0, api.ErrArg},
		{"\x09\x02\x01", math.MaxInt, 8, 0, api.ErrArg},
		{"\x09\x02\x01", math.MinInt, 8, 0, api.ErrArg},
		{"\x09\x02\x01", 0, 0, 0, api.ErrArg},
		{"\x09\x02\x01", 0, -1, 0, api.ErrArg},
		{"\x01\x01\x01\x01\x01\x01\x01\x01\x01", 0, 9, 0, api.ErrArg},
		{"\x09\x02\x01", 0, math.MaxInt, 0, api.ErrArg},
		{"\x09\x02\x01", 0, math.MinInt, 0, api.ErrArg},
		{"\x09\x02\x01", 3, 0, 0, api.ErrArg},
		{"\x09\x02\x01", 3, 9, 0, api.ErrArg},
		{"", 0, 1, 0, api.ErrShort},
		{"", 1, 1, 0, api.ErrArg},
	} {
		if got, e := num.Get([]byte(c.b), c.at, c.width); got != c.want || e != c.e {
			t.Errorf("Get(%x, %d, %d) = %d, %d, want %d, %d", c.b, c.at, c.width, got, e, c.want, c.e)
		}
	}
	if n, e := num.Get(nil, 0, 1); n != 0 || e != api.ErrShort {
		t.Errorf("Get of nil = %d, %d", n, e)
	}
}

func TestPutIsGot(t *testing.T) {
	for _, n := range edges() {
		for width := 1; width <= 8; width++ {
			b := num.Put([]byte("abc"), width, n)
			want := n
			if width < 8 {
				want = n % (1 << (8 * width))
			}
			if got, e := num.Get(b, 3, width); got != want || e != api.OK || len(b) != 3+width {
				t.Errorf("Put of %d in %d, then Get: %d, %d, of %x", n, width, got, e, b)
			}
			if string(b[:3]) != "abc" {
				t.Errorf("Put of %d in %d: ahead of it stands %x", n, width, b[:3])
			}
		}
	}
}

func TestGotIsPut(t *testing.T) {
	b := []byte{0, 200, 1, 255, 0, 0, 7, 128, 9, 0, 0}
	for at := 0; at <= len(b); at++ {
		for width := 1; width <= 8; width++ {
			n, e := num.Get(b, at, width)
			if at+width > len(b) {
				if n != 0 || e != api.ErrShort {
					t.Errorf("Get at %d in %d = %d, %d", at, width, n, e)
				}
				continue
			}
			if back := num.Put(nil, width, n); e != api.OK || !bytes.Equal(back, b[at:at+width]) {
				t.Errorf("Get at %d in %d, put again: %x, %d", at, width, back, e)
			}
		}
	}
}

// P1.2

func TestPutVar(t *testing.T) {
	for _, c := range []struct {
		n    uint64
		want string
	}{
		{0, "\x00"},
		{1, "\x01"},
		{127, "\x7f"},
		{128, "\x80\x01"},
		{129, "\x81\x01"},
		{300, "\xac\x02"},
		{16383, "\xff\x7f"},
		{16384, "\x80\x80\x01"},
		{1<<63 - 1, "\xff\xff\xff\xff\xff\xff\xff\xff\x7f"},
		{1 << 63, "\x80\x80\x80\x80\x80\x80\x80\x80\x80\x01"},
		{math.MaxUint64, "\xff\xff\xff\xff\xff\xff\xff\xff\xff\x01"},
	} {
		if got := num.PutVar([]byte("x"), c.n); string(got) != "x"+c.want {
			t.Errorf("PutVar of %d = %x, want %x behind 78", c.n, got, c.want)
		}
		if got := num.PutVar(nil, c.n); string(got) != c.want {
			t.Errorf("PutVar of %d behind nil = %x, want %x", c.n, got, c.want)
		}
	}
}

func TestVar(t *testing.T) {
	nine := strings.Repeat("\xff", 9)
	noughts := strings.Repeat("\x80", 9)
	for _, c := range []struct {
		b    string
		at   int
		want uint64
		end  int
		e    api.Errno
	}{
		{"\x00", 0, 0, 1, api.OK},
		{"\x00\x05", 0, 0, 1, api.OK},
		{"\x00\x00", 1, 0, 2, api.OK},
		{"\x80\x00", 1, 0, 2, api.OK},
		{"\x7f\x01", 0, 127, 1, api.OK},
		{"\xac\x02", 0, 300, 2, api.OK},
		{"\x09\xac\x02\x09", 1, 300, 3, api.OK},
		{"\x09\xac\x02\x09", 2, 2, 3, api.OK},
		{"\x80\x80\x01", 0, 16384, 3, api.OK},
		{nine + "\x01", 0, math.MaxUint64, 10, api.OK},
		{noughts + "\x01", 0, 1 << 63, 10, api.OK},
		{nine + "\x01\x00", 0, math.MaxUint64, 10, api.OK},
		{nine[1:] + "\x7f", 0, 1<<63 - 1, 9, api.OK},
		{nine + "\x02", 0, 0, 0, api.ErrForm},
		{nine + "\x03", 0, 0, 0, api.ErrForm},
		{nine + "\x7f", 0, 0, 0, api.ErrForm},
		{nine + "\x00", 0, 0, 0, api.ErrForm},
		{nine + "\x80", 0, 0, 0, api.ErrForm},
		{nine + "\x81", 0, 0, 0, api.ErrForm},
		{nine + "\x81\x01", 0, 0, 0, api.ErrForm},
		{nine + "\xff\x00", 0, 0, 0, api.ErrForm},
		{"\x80\x00", 0, 0, 0, api.ErrForm},
		{"\x81\x00", 0, 0, 0, api.ErrForm},
		{"\xff\x00\x01", 0, 0, 0, api.ErrForm},
		{"\xff\x80\x00", 0, 0, 0, api.ErrForm},
		{"\x80", 0, 0, 0, api.ErrShort},
		{"\xff\xff", 0, 0, 0, api.ErrShort},
		{nine, 0, 0, 0, api.ErrShort},
		{"\x01\x80", 1, 0, 0, api.ErrShort},
		{"\x01\x02", 2, 0, 0, api.ErrShort},
		{"", 0, 0, 0, api.ErrShort},
		{"\x01\x02", 3, 0, 0, api.ErrArg},
		{"\x01\x02", -1, 0, 0, api.ErrArg},
		{"\x01\x02", math.MinInt, 0, 0, api.ErrArg},
		{"\x01\x02", math.MaxInt, 0, 0, api.ErrArg},
		{"", 1, 0, 0, api.ErrArg},
		{"", -1, 0, 0, api.ErrArg},
	} {
		if n, end, e := num.Var([]byte(c.b), c.at); n != c.want || end != c.end || e != c.e {
			t.Errorf("Var(%x, %d) = %d, %d, %d, want %d, %d, %d", c.b, c.at, n, end, e, c.want, c.end, c.e)
		}
	}
	if n, end, e := num.Var(nil, 0); n != 0 || end != 0 || e != api.ErrShort {
		t.Errorf("Var of nil = %d, %d, %d", n, end, e)
	}
}

func TestPutVarIsRead(t *testing.T) {
	for _, n := range edges() {
		b := num.PutVar([]byte("abc"), n)
		if got, end, e := num.Var(b, 3); got != n || end != len(b) || e != api.OK {
			t.Errorf("PutVar of %d, then Var: %d, %d, %d, of %x", n, got, end, e, b)
		}
		if string(b[:3]) != "abc" {
			t.Errorf("PutVar of %d: ahead of it stands %x", n, b[:3])
		}
		for size := 3; size < len(b); size++ {
			if got, end, e := num.Var(b[:size], 3); got != 0 || end != 0 || e != api.ErrShort {
				t.Errorf("Var of %x = %d, %d, %d", b[3:size], got, end, e)
			}
		}
	}
}

func TestVarIsPutAgain(t *testing.T) {
	heads := []string{"", strings.Repeat("\x80", 5), strings.Repeat("\xff", 7), strings.Repeat("\x80", 8), strings.Repeat("\xff", 9)}
	for _, head := range heads {
		for _, tail := range few(4) {
			b := append([]byte(head), tail...)
			n, end, e := num.Var(b, 0)
			if e != api.OK {
				if n != 0 || end != 0 {
					t.Errorf("Var of %x = %d, %d beside %d", b, n, end, e)
				}
				continue
			}
			if back := num.PutVar(nil, n); !bytes.Equal(back, b[:end]) {
				t.Errorf("Var of %x, put again: %x", b, back)
			}
		}
	}
}

// P1.3

func TestPutTextAndPutBytes(t *testing.T) {
	long := strings.Repeat("q", 300)
	for _, c := range []struct{ out, x, want string }{
		{"", "", "\x00"},
		{"", "abc", "\x03abc"},
		{"ab", "", "ab\x00"},
		{"ab", "\x00\xff", "ab\x02\x00\xff"},
		{"", long[:127], "\x7f" + long[:127]},
		{"", long[:128], "\x80\x01" + long[:128]},
		{"z", long, "z\xac\x02" + long},
	} {
		if got := num.PutText([]byte(c.out), c.x); string(got) != c.want {
			t.Errorf("PutText(%q, %q) = %q", c.out, c.x, got)
		}
		if got := num.PutBytes([]byte(c.out), []byte(c.x)); string(got) != c.want {
			t.Errorf("PutBytes(%q, %q) = %q", c.out, c.x, got)
		}
	}
	if string(num.PutText(nil, "")) != "\x00" || string(num.PutBytes(nil, nil)) != "\x00" || string(num.PutBytes([]byte{}, []byte{})) != "\x00" {
		t.Error("nothing, behind nothing, is not one nought")
	}
	if string(num.PutText(nil, "é")) != "\x02\xc3\xa9" {
		t.Error("a length that isn't of bytes")
	}
}

func TestTextAndBytes(t *testing.T) {
	nine := strings.Repeat("\xff", 9)
	huge := nine + "\x01"
	half := strings.Repeat("\x80", 9) + "\x01"
	for _, c := range []struct {
		b        string
		at, most int
		want     string
		end      int
		e        api.Errno
	}{
		{"\x03abc", 0, 3, "abc", 4, api.OK},
		{"\x03abc", 0, math.MaxInt, "abc", 4, api.OK},
		{"\x09\x03abcd", 1, 9, "abc", 5, api.OK},
		{"\x02\x00\xff", 0, 2, "\x00\xff", 3, api.OK},
		{"\x00", 0, 0, "", 1, api.OK},
		{"\x00abc", 0, 5, "", 1, api.OK},
		{"\x00", 0, -1, "", 1, api.OK},
		{"\x00", 0, math.MinInt, "", 1, api.OK},
		{"\x03abc", 0, 2, "", 0, api.ErrFull},
		{"\x03abc", 0, 0, "", 0, api.ErrFull},
		{"\x01a", 0, 0, "", 0, api.ErrFull},
		{"\x01a", 0, -1, "", 0, api.ErrFull},
		{"\x01a", 0, math.MinInt, "", 0, api.ErrFull},
		{"\x03a", 0, 2, "", 0, api.ErrFull},
		{huge + "a", 0, math.MaxInt, "", 0, api.ErrFull},
		{huge + "a", 0, -1, "", 0, api.ErrFull},
		{half + "a", 0, math.MaxInt, "", 0, api.ErrFull},
		{nine[1:] + "\x7fa", 0, math.MaxInt - 1, "", 0, api.ErrFull},
		{nine[1:] + "\x7fa", 0, math.MaxInt, "", 0, api.ErrShort},
		{"\x02a", 0, 2, "", 0, api.ErrShort},
		{"\x02a", 0, math.MaxInt, "", 0, api.ErrShort},
		{"\x01", 0, 1, "", 0, api.ErrShort},
		{"\x80\x01" + strings.Repeat("q", 127), 0, 128, "", 0, api.ErrShort},
		{"\x80", 0, -1, "", 0, api.ErrShort},
		{"", 0, 5, "", 0, api.ErrShort},
		{"\x01a", 2, 5, "", 0, api.ErrShort},
		{"\x01a", 3, 5, "", 0, api.ErrArg},
		{"\x01a", -1, 5, "", 0, api.ErrArg},
		{"\x80\x00", 0, 0, "", 0, api.ErrForm},
		{nine + "\x02", 0, 0, "", 0, api.ErrForm},
	} {
		if s, end, e := num.Text([]byte(c.b), c.at, c.most); s != c.want || end != c.end || e != c.e {
			t.Errorf("Text(%x, %d, %d) = %q, %d, %d, want %q, %d, %d", c.b, c.at, c.most, s, end, e, c.want, c.end, c.e)
		}
		if x, end, e := num.Bytes([]byte(c.b), c.at, c.most); string(x) != c.want || end != c.end || e != c.e {
			t.Errorf("Bytes(%x, %d, %d) = %q, %d, %d, want %q, %d, %d", c.b, c.at, c.most, x, end, e, c.want, c.end, c.e)
		}
	}
	if s, end, e := num.Text(nil, 0, 0); s != "" || end != 0 || e != api.ErrShort {
		t.Errorf("Text of nil = %q, %d, %d", s, end, e)
	}
	if x, end, e := num.Bytes(nil, 0, 0); len(x) != 0 || end != 0 || e != api.ErrShort {
		t.Errorf("Bytes of nil = %q, %d, %d", x, end, e)
	}
}

// P1.4

func TestTextsAreReadAndPutAgain(t *testing.T) {
	for _, b := range few(4) {
		for at := 0; at <= len(b); at++ {
			s, end, e := num.Text(b, at, 3)
			x, end2, e2 := num.Bytes(b, at, 3)
			if s != string(x) || end != end2 || e != e2 {
				t.Errorf("Text and Bytes of %x at %d are unlike", b, at)
			}
			if e != api.OK {
				continue
			}
			if !bytes.Equal(num.PutText(nil, s), b[at:end]) || !bytes.Equal(num.PutBytes(nil, x), b[at:end]) {
				t.Errorf("the text of %x at %d, put again: %x", b, at, num.PutText(nil, s))
			}
		}
	}
}

func TestManyBehindOneAnother(t *testing.T) {
	var b []byte
	for i, n := range edges() {
		width := 1 + i%8
		b = num.Put(b, width, n)
		b = num.PutVar(b, n)
		b = num.PutText(b, strings.Repeat("t", i))
		b = num.PutBytes(b, bytes.Repeat([]byte{byte(i)}, i))
	}
	at := 0
	for i, n := range edges() {
		width := 1 + i%8
		fixed, e := num.Get(b, at, width)
		if want := n << (64 - 8*width) >> (64 - 8*width); fixed != want || e != api.OK {
			t.Fatalf("number %d in %d bytes: %d, %d", i, width, fixed, e)
		}
		got, at1, e1 := num.Var(b, at+width)
		s, at2, e2 := num.Text(b, at1, i)
		x, at3, e3 := num.Bytes(b, at2, i)
		if got != n || s != strings.Repeat("t", i) || !bytes.Equal(x, bytes.Repeat([]byte{byte(i)}, i)) || e1 != api.OK || e2 != api.OK || e3 != api.OK {
			t.Fatalf("number %d: %d, %q, %x, %d %d %d", i, got, s, x, e1, e2, e3)
		}
		at = at3
	}
	if at != len(b) {
		t.Errorf("%d bytes of %d were read", at, len(b))
	}
}

// puts are all calls that put something, with what each puts.
func puts() []func(out []byte) []byte {
	return []func(out []byte) []byte{
		func(out []byte) []byte { return num.Put(out, 1, 1) },
		func(out []byte) []byte { return num.Put(out, 8, 1) },
		func(out []byte) []byte { return num.Put(out, 0, 1) },
		func(out []byte) []byte { return num.Put(out, -1, 1) },
		func(out []byte) []byte { return num.Put(out, 9, 1) },
		func(out []byte) []byte { return num.PutVar(out, 0) },
		func(out []byte) []byte { return num.PutVar(out, math.MaxUint64) },
		func(out []byte) []byte { return num.PutText(out, "") },
		func(out []byte) []byte { return num.PutText(out, "abc") },
		func(out []byte) []byte { return num.PutBytes(out, nil) },
		func(out []byte) []byte { return num.PutBytes(out, []byte("abc")) },
	}
}

// spoil writes over a list, and over what room it has behind its end.
func spoil(b []byte) {
	for i := range b[:cap(b)] {
		b[:cap(b)][i] ^= 0xff
	}
}

func TestOutStaysAsItIs(t *testing.T) {
	for i, put := range puts() {
		for size := 0; size <= 20; size += 5 {
			whole := bytes.Repeat([]byte("w"), 40)
			out := whole[:size]
			got := put(out)
			kept := bytes.Clone(got)
			if !bytes.Equal(whole, bytes.Repeat([]byte("w"), 40)) {
				t.Errorf("put %d behind %d bytes wrote into what it was handed: %q", i, size, whole)
			}
			if !bytes.Equal(got[:size], out) {
				t.Errorf("put %d behind %d bytes: ahead of it stands %q", i, size, got[:size])
			}
			spoil(whole)
			if !bytes.Equal(got, kept) {
				t.Errorf("put %d behind %d bytes shares what it was handed", i, size)
			}
			spoil(whole)
			spoil(got)
			if !bytes.Equal(whole, bytes.Repeat([]byte("w"), 40)) {
				t.Errorf("put %d behind %d bytes answers what it was handed", i, size)
			}
		}
	}
}

func TestTwoBehindOneAnswer(t *testing.T) {
	for i, first := range puts() {
		base := first([]byte("base"))
		for j, second := range puts() {
			one := second(base)
			kept := bytes.Clone(one)
			second(base)
			num.PutText(base, "something else")
			if !bytes.Equal(one, kept) {
				t.Errorf("put %d behind put %d was written over by a later one", j, i)
			}
		}
		one, two := append(base, 'x'), append(base, 'y')
		if one[len(base)] != 'x' || two[len(base)] != 'y' {
			t.Errorf("put %d left room behind what it answers", i)
		}
	}
}

func TestWhatIsPutStaysAsItIs(t *testing.T) {
	x := []byte("abcdef")
	got := num.PutBytes(nil, x[:3])
	if string(x) != "abcdef" || string(got) != "\x03abc" {
		t.Errorf("PutBytes of %q: %q", x, got)
	}
	spoil(x)
	if string(got) != "\x03abc" {
		t.Error("PutBytes shares what it was handed")
	}
	spoil(x)
	if twice := num.PutBytes(x[:2], x[:6]); string(x) != "abcdef" || string(twice) != "ab\x06abcdef" {
		t.Errorf("PutBytes of a list behind itself: %q, %q", x, twice)
	}
}

func TestWhatIsReadIsTheCallersOwn(t *testing.T) {
	whole := []byte("\x03abc\x00tail")
	for _, size := range []int{4, 5, len(whole)} {
		b := whole[:size]
		s, _, _ := num.Text(b, 0, 9)
		x, _, _ := num.Bytes(b, 0, 9)
		y, _, _ := num.Bytes(b, 0, 9)
		num.Get(b, 1, 2)
		num.Var(b, 0)
		spoil(x)
		_ = append(x[:0], "gone"...)
		if string(whole) != "\x03abc\x00tail" {
			t.Fatalf("what was handed in is now %q", whole)
		}
		if string(y) != "abc" {
			t.Error("two answers share their bytes")
		}
		spoil(whole)
		if s != "abc" || string(y) != "abc" {
			t.Errorf("what was read hangs on what was handed in: %q, %q", s, y)
		}
		spoil(whole)
	}
	empty, _, e := num.Bytes(whole, 4, 9)
	if _ = append(empty, 'x'); e != api.OK || string(whole) != "\x03abc\x00tail" {
		t.Errorf("behind an empty answer stands what was handed in: %q, %d", whole, e)
	}
}

func TestNilAndEmptyAreTheSame(t *testing.T) {
	for i, put := range puts() {
		if !bytes.Equal(put(nil), put([]byte{})) {
			t.Errorf("put %d behind nil and behind nothing are unlike", i)
		}
	}
	for at := -1; at <= 1; at++ {
		for most := -1; most <= 1; most++ {
			n1, e1 := num.Get(nil, at, most)
			n2, e2 := num.Get([]byte{}, at, most)
			v1, end1, f1 := num.Var(nil, at)
			v2, end2, f2 := num.Var([]byte{}, at)
			s1, to1, g1 := num.Text(nil, at, most)
			s2, to2, g2 := num.Text([]byte{}, at, most)
			if n1 != n2 || e1 != e2 || v1 != v2 || end1 != end2 || f1 != f2 || s1 != s2 || to1 != to2 || g1 != g2 {
				t.Errorf("nil and nothing are read unlike, at %d, most %d", at, most)
			}
		}
	}
}

// The room behind a list's end is nobody's: what stands there is not read.
func TestRoomIsNotRead(t *testing.T) {
	whole := []byte("\x83\x00\x01abc")
	if n, e := num.Get(whole[:1], 0, 2); n != 0 || e != api.ErrShort {
		t.Errorf("Get read %d behind the end, %d", n, e)
	}
	if n, _, e := num.Var(whole[:1], 0); n != 0 || e != api.ErrShort {
		t.Errorf("Var read %d behind the end, %d", n, e)
	}
	if s, _, e := num.Text(whole[2:3], 0, 9); s != "" || e != api.ErrShort {
		t.Errorf("Text read %q behind the end, %d", s, e)
	}
	if n, e := num.Get(whole[:1], 2, 1); n != 0 || e != api.ErrArg {
		t.Errorf("Get read %d behind the end, %d", n, e)
	}
}
