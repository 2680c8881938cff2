package scroll_test

import (
	"bytes"
	"fmt"
	"hash/crc32"
	"math"
	"math/big"
	"reflect"
	"slices"
	"testing"

	"ciborium/api"
	"ciborium/array"
	"ciborium/code"
	"ciborium/field"
	"ciborium/pool"
	"ciborium/scroll"
	"ciborium/stripe"
)

// What the chapters count with, written apart from the program.
const (
	rowBytes    = 44
	headBytes   = 10 // of the next stripe's place and generation
	mostStripes = 400
	epochGens   = 1048576 // generations of an epoch
	mostGen     = math.MaxUint64
)

// size is how many rows of data and of parity there are.
type size struct{ k, m int }

func (z size) n() int       { return z.k + z.m }
func (z size) room() int    { return rowBytes*z.k - headBytes }
func (z size) name() string { return fmt.Sprint("k ", z.k, ", m ", z.m) }

// small are sizes of which each set of drives can be gone through.
func small() []size {
	return []size{{1, 1}, {2, 1}, {1, 2}, {3, 1}, {2, 2}, {1, 3}, {4, 1}, {3, 2}, {2, 3}, {1, 4}}
}

// middle are small sizes, and some of more drives.
func middle() []size { return append(small(), size{5, 1}, size{8, 2}, size{10, 1}, size{16, 3}) }

// some are sizes up to as many drives as there may be.
func some() []size { return append(middle(), size{1, 254}, size{254, 1}, size{127, 128}) }

// count is how many stripes a text needs, taken away one by one.
func (z size) count(long int) int {
	many := 1
	for ; long > z.room(); long -= z.room() {
		many++
	}
	return many
}

// pieces are the parts of a text that lie in its stripes.
func (z size) pieces(x []byte) [][]byte {
	var l [][]byte
	for len(x) > z.room() {
		l = append(l, x[:z.room()])
		x = x[z.room():]
	}
	return append(l, x)
}

// lengths are those of texts at the edges of what up to so many stripes have room for.
func (z size) lengths(most int) []int {
	l := []int{0, 1, 2}
	for many := 1; many <= most; many++ {
		l = append(l, many*z.room()-1, many*z.room(), many*z.room()+1)
	}
	l = slices.DeleteFunc(l, func(long int) bool { return long > most*z.room() })
	slices.Sort(l)
	return slices.Compact(l)
}

// texts are lengths of one stripe, of two and of four.
func (z size) texts() []int { return []int{z.room() - 1, z.room() + 1, 3*z.room() + 5} }

// text answers so many bytes, each unlike those of another seed at its place.
func text(seed, long int) []byte {
	b := make([]byte, long)
	for i := range b {
		b[i] = byte(seed + 31*i + i/256)
	}
	return b
}

// fixed is a number in so many bytes, the lowest first.
func fixed(n uint64, width int) []byte {
	var b []byte
	for range width {
		b = append(b, byte(n%256))
		n /= 256
	}
	return b
}

// leaf is a stripe: its place and generation, those of the next one as it tells them, and what it has of the text.
type leaf struct {
	place int
	gen   uint64
	next  int
	after uint64
	text  []byte
}

// bytes are the bytes of a leaf.
func (l leaf) bytes() []byte {
	return slices.Concat(fixed(uint64(l.next), 2), fixed(l.after, 8), l.text)
}

func (l leaf) ref() api.Ref { return api.Ref{Kind: 4, Place: l.place, Gen: l.gen} }

// leaves are a text's stripes at these places, with generations from one on.
func (z size) leaves(x []byte, places []int, gen uint64) []leaf {
	var l []leaf
	for i, piece := range z.pieces(x) {
		one := leaf{place: places[i], gen: gen + uint64(i), text: piece}
		if (i+1)*z.room() < len(x) {
			one.next, one.after = places[i+1], gen+uint64(i+1)
		}
		l = append(l, one)
	}
	return l
}

// bed is drives, a coder of as many rows, and a pool.
type bed struct {
	size
	a *array.Array
	c *code.Coder
	p *pool.Pool
}

// made answers a bed that there must be, in each of whose sectors something is stored that is no shard.
func made(t *testing.T, z size, sectors int, p *pool.Pool) bed {
	t.Helper()
	b := bed{size: z, a: array.New(z.n(), sectors), c: code.New(field.New(), z.k, z.m), p: p}
	if b.a == nil || b.c == nil || b.p == nil {
		t.Fatalf("no drives, no coder or no pool, of %v and %d sectors", z, sectors)
	}
	for d := range z.n() {
		for at := range sectors {
			b.a.Write(d, at, text(7*d+3*at+1, 64))
		}
	}
	b.a.Flush()
	return b
}

func (b bed) copy() bed { return bed{size: b.size, a: b.a.Copy(), c: b.c, p: b.p.Copy()} }

// lay puts stripes that must be put.
func (b bed) lay(t *testing.T, leaves ...leaf) {
	t.Helper()
	for _, l := range leaves {
		if _, e := stripe.Put(b.a, b.c, l.ref(), l.bytes()); e != api.OK {
			t.Fatalf("%s: a stripe %v can't be put: %d", b.name(), l, e)
		}
	}
}

// gaps answers a pool of 14 places from 2 on, of which 2 and 5 are taken, and 3 and 8 in limbo; ten are free. Generations begin in the epoch 3 with the count 7.
func gaps() *pool.Pool {
	p := pool.New(2, 14)
	for _, place := range []int{2, 3, 5, 8} {
		p.Use(place)
	}
	p.Later([]int{3, 8})
	p.Begin(3)
	p.Gens(7)
	return p
}

// firstGap is the generation that the pool with gaps tells next.
const firstGap = 3*epochGens + 7

// gapPlaces are the places that the pool with gaps gives out, in order.
func gapPlaces() []int { return []int{4, 6, 7, 9, 10, 11, 12, 13, 14, 15} }

// shot is all that drives tell, so that two of them can be held against each other.
type shot struct {
	waits        []int
	dead         []bool
	read, stored [][][]byte
}

func shotOf(a *array.Array) shot {
	var s shot
	for d := range a.N() {
		s.waits = append(s.waits, a.Waits(d))
		s.dead = append(s.dead, a.Dead(d))
		var read, stored [][]byte
		for at := range a.Sectors() {
			r, _ := a.Read(d, at)
			read, stored = append(read, r), append(stored, a.Stored(d, at))
		}
		s.read, s.stored = append(s.read, read), append(s.stored, stored)
	}
	return s
}

// stock is all that a pool tells.
type stock struct {
	taken, free, limbo []int
	epoch, next        uint64
}

func stockOf(p *pool.Pool) stock {
	s := stock{taken: p.Taken(), epoch: p.Epoch()}
	s.next, _ = p.Gens(0)
	c := p.Copy()
	s.free, _ = c.Take(c.Free())
	c.Settle()
	s.limbo, _ = c.Take(c.Free())
	return s
}

// equal tells whether two stocks are the same, a nil list being as an empty one.
func (s stock) equal(o stock) bool {
	return slices.Equal(s.taken, o.taken) && slices.Equal(s.free, o.free) && slices.Equal(s.limbo, o.limbo) && s.epoch == o.epoch && s.next == o.next
}

// unchanged tells what goes wrong where drives and a pool are to be as they were.
func (b bed) unchanged(t *testing.T, name string, drives shot, places stock) {
	t.Helper()
	if is := shotOf(b.a); !reflect.DeepEqual(is, drives) {
		t.Errorf("%s: the drives are otherwise than they were", name)
	}
	if is := stockOf(b.p); !is.equal(places) {
		t.Errorf("%s: the pool is %v, and was %v", name, is, places)
	}
}

// sheet is a scroll with its places.
type sheet struct {
	api.Scroll
	places []int
}

// puts puts what must be put.
func (b bed) puts(t *testing.T, name string, x []byte) sheet {
	t.Helper()
	s, places, e := scroll.Put(b.a, b.c, b.p, x)
	if e != api.OK {
		t.Fatalf("%s: Put(%d bytes) = %v, %v, %d", name, len(x), s, places, e)
	}
	return sheet{s, places}
}

// gets tells what goes wrong where a text is to be got, with its places.
func (b bed) gets(t *testing.T, name string, s sheet, want []byte) {
	t.Helper()
	x, places, e := scroll.Get(b.a, b.c, s.Scroll)
	if !bytes.Equal(x, want) || !slices.Equal(places, s.places) || e != api.OK {
		t.Errorf("%s: Get(%v) = %v, %v, %d, want %v, %v", name, s.Scroll, x, places, e, want, s.places)
	}
}

// fails tells what goes wrong where Get is to answer an error.
func (b bed) fails(t *testing.T, name string, s api.Scroll, want api.Errno) {
	t.Helper()
	if x, places, e := scroll.Get(b.a, b.c, s); len(x) != 0 || len(places) != 0 || e != want {
		t.Errorf("%s: Get(%v) = %v, %v, %d, want nothing, %d", name, s, x, places, e, want)
	}
}

// gotOrLost tells what goes wrong where a text is to be got, or to be lost.
func (b bed) gotOrLost(t *testing.T, name string, s sheet, x []byte, got bool) {
	t.Helper()
	if got {
		b.gets(t, name, s, x)
	} else {
		b.fails(t, name, s.Scroll, api.ErrLost)
	}
}

// home is the drive on which a shard lies.
func (b bed) home(place, index int) int { return (place + index) % b.n() }

// rot has a shard of a sheet's stripe rot.
func (b bed) rot(s sheet, i, index int) {
	place := s.places[i]
	b.a.Rot(b.home(place, index), place, (place*7+index*11)%61, 0x80000001)
}

// bits are n bools: number's bits, the lowest first.
func bits(number, n int) []bool {
	l := make([]bool, n)
	for i := range l {
		l[i] = number>>i&1 == 1
	}
	return l
}

// many tells how many are so.
func many(list []bool) int {
	n := 0
	for _, is := range list {
		if is {
			n++
		}
	}
	return n
}

// nobodysCoders are those that New didn't make.
func nobodysCoders() map[string]*code.Coder {
	return map[string]*code.Coder{"no coder": nil, "a coder that nobody made": {}, "a coder of no field": code.New(nil, 1, 1)}
}

func TestExamples(t *testing.T) {
	c := code.New(field.New(), 1, 1)
	if one, two := scroll.Count(c, 34), scroll.Count(c, 35); one != 1 || two != 2 {
		t.Errorf("of k 1 Count of 34 and of 35 bytes = %d, %d", one, two)
	}
	b := made(t, size{1, 1}, 16, gaps())
	if one, two := b.puts(t, "34 bytes", text(1, 34)), b.puts(t, "35 bytes", text(1, 35)); one.Count != 1 || two.Count != 2 {
		t.Errorf("of k 1 Put of 34 and of 35 bytes = %v, %v", one, two)
	}
	want := []byte{2, 1, 1, 0, 0, 0, 0, 0, 0, 0, 2, 0, 3, 0, 0, 0}
	s := api.Scroll{Place: 258, Gen: 1, Count: 2, Size: 3}
	if x := scroll.PutBytes(nil, s); !bytes.Equal(x, want) {
		t.Errorf("PutBytes(%v) = %x", s, x)
	}
	if x, e := scroll.GetBytes(want, 0); x != s || e != api.OK {
		t.Errorf("GetBytes(%x) = %v, %d", want, x, e)
	}
}

// P16.1

func TestCount(t *testing.T) {
	f := field.New()
	for k := 1; k <= 254; k++ {
		for _, m := range []int{1, 255 - k} {
			z, c := size{k, m}, code.New(f, k, m)
			for _, long := range append(z.lengths(6), z.lengths(400)[1190:]...) {
				if n := scroll.Count(c, long); n != z.count(long) {
					t.Errorf("%s: Count of %d = %d, want %d", z.name(), long, n, z.count(long))
				}
			}
			for _, long := range []int{0, 1, z.room() - 1, z.room()} {
				if n := scroll.Count(c, long); n != 1 {
					t.Errorf("%s: Count of %d = %d, want 1", z.name(), long, n)
				}
			}
			for _, n := range []int{1, 2, 3, 399, 400, 401, 65535, 65536} {
				if full, over := scroll.Count(c, n*z.room()), scroll.Count(c, n*z.room()+1); full != n || over != n+1 {
					t.Errorf("%s: Count of what %d have room for = %d, of one byte more = %d", z.name(), n, full, over)
				}
			}
		}
	}
}

func TestCountOfEachText(t *testing.T) {
	for _, z := range some() {
		c := code.New(field.New(), z.k, z.m)
		for long := -500; long <= 1500; long++ {
			want := 0
			if long >= 0 {
				want = z.count(long)
			}
			if n := scroll.Count(c, long); n != want {
				t.Errorf("%s: Count of %d = %d, want %d", z.name(), long, n, want)
			}
		}
	}
}

func TestCountOfTheGreatest(t *testing.T) {
	for _, z := range some() {
		c := code.New(field.New(), z.k, z.m)
		for _, less := range []int{0, 1, 2, 9, 10, 11, 33, 34, 44, z.room() - 1, z.room(), z.room() + 1, 1 << 32, 1 << 62} {
			// The sum is reckoned without a bound: so much and all but one byte of a stripe, cut to whole stripes.
			long := math.MaxInt - less
			up := new(big.Int).Add(big.NewInt(int64(long)), big.NewInt(int64(z.room()-1)))
			want := int(up.Div(up, big.NewInt(int64(z.room()))).Int64())
			if n := scroll.Count(c, long); n != want {
				t.Errorf("%s: Count of %d = %d, want %d", z.name(), long, n, want)
			}
			if n := scroll.Count(c, math.MinInt+less); n != 0 {
				t.Errorf("%s: Count of %d = %d, want 0", z.name(), math.MinInt+less, n)
			}
		}
	}
}

func TestCountWithoutACoder(t *testing.T) {
	for name, c := range nobodysCoders() {
		for _, long := range []int{math.MinInt, -11, -10, -1, 0, 1, 10, 34, 35, 400, math.MaxInt} {
			if n := scroll.Count(c, long); n != 0 {
				t.Errorf("%s: Count of %d = %d", name, long, n)
			}
		}
	}
}

// P16.2

// putting tells what goes wrong where a text is put with the pool with gaps: which scroll it is, what lies on the drives, and what is left in the pool.
func putting(t *testing.T, b bed, x []byte) {
	t.Helper()
	name := fmt.Sprint(b.name(), ", ", len(x), " bytes")
	n := b.count(len(x))
	want := sheet{api.Scroll{Place: 4, Gen: firstGap, Count: n, Size: len(x)}, gapPlaces()[:n]}
	drives, then := bed{size: b.size, a: b.a.Copy(), c: b.c}, stockOf(b.p)
	s := b.puts(t, name, x)
	if s.Scroll != want.Scroll || !slices.Equal(s.places, want.places) {
		t.Errorf("%s: Put = %v, want %v", name, s, want)
	}
	drives.lay(t, b.leaves(x, want.places, firstGap)...)
	then.taken = append(then.taken, want.places...)
	slices.Sort(then.taken)
	then.free = then.free[n:]
	then.next += uint64(n)
	b.unchanged(t, name, shotOf(drives.a), then)
	b.gets(t, name+", waiting", want, x)
	b.a.Flush()
	b.gets(t, name+", flushed", want, x)
	drives.a.Flush()
	b.unchanged(t, name+", behind Get", shotOf(drives.a), then)
}

func TestPutOfEachLength(t *testing.T) {
	for _, z := range some() {
		b := made(t, z, 16, gaps())
		for i, long := range z.lengths(10) {
			putting(t, b.copy(), text(i, long))
		}
	}
	b := made(t, size{1, 1}, 16, gaps())
	for long := range 341 {
		putting(t, b.copy(), text(long, long))
	}
}

// The bytes stand here one by one, so that this test leans on nothing that it tests.
func TestAScrollByteByByte(t *testing.T) {
	b := made(t, size{1, 1}, 16, gaps())
	x := text(9, 80)
	s := b.puts(t, "eighty bytes", x)
	for i, long := range []int{34, 34, 12} {
		place, gen := []byte{4, 6, 7}[i], byte(7+i)
		head := []byte{4, 0, place, 0, gen, 0, 0x30, 0, 0, 0, 0, 0, byte(10 + long), 0, 0, 0}
		next := [][]byte{{6, 0, 8, 0, 0x30, 0, 0, 0, 0, 0}, {7, 0, 9, 0, 0x30, 0, 0, 0, 0, 0}, {0, 0, 0, 0, 0, 0, 0, 0, 0, 0}}[i]
		for index := range 2 { // of k 1 and m 1 the parity is the data
			head[1] = byte(index)
			want := slices.Concat(head, next, x[34*i:34*i+long])
			want = append(want, make([]byte, 60-len(want))...)
			sum := crc32.Checksum(want, crc32.MakeTable(crc32.Castagnoli))
			want = append(want, byte(sum), byte(sum>>8), byte(sum>>16), byte(sum>>24))
			if got, _ := b.a.Read((int(place)+index)%2, int(place)); !bytes.Equal(got, want) {
				t.Errorf("the stripe %d, index %d = %x, want %x", i, index, got, want)
			}
		}
	}
	if !slices.Equal(s.places, []int{4, 6, 7}) || s.Scroll != (api.Scroll{Place: 4, Gen: 3145735, Count: 3, Size: 80}) {
		t.Errorf("eighty bytes are %v", s)
	}
}

// Places above 255 and generations of the last epoch fill their bytes.
func TestPutOfGreatNumbers(t *testing.T) {
	for _, z := range middle() {
		p := pool.New(590, 10)
		p.Begin(1<<40 - 1)
		p.Gens(epochGens - 4)
		b := made(t, z, 600, p)
		drives := bed{size: z, a: b.a.Copy(), c: b.c}
		x, gen := text(1, 3*z.room()+1), uint64(1<<60-4)
		s := b.puts(t, z.name(), x)
		want := []int{590, 591, 592, 593}
		if s.Scroll != (api.Scroll{Place: 590, Gen: gen, Count: 4, Size: len(x)}) || !slices.Equal(s.places, want) {
			t.Errorf("%s: Put = %v", z.name(), s)
		}
		drives.lay(t, z.leaves(x, want, gen)...)
		if !reflect.DeepEqual(shotOf(b.a), shotOf(drives.a)) {
			t.Errorf("%s: the drives are otherwise than they should be", z.name())
		}
		b.gets(t, z.name(), s, x)
	}
}

// As many stripes as there can be, and one more.
func TestPutOfAsManyStripesAsMayBe(t *testing.T) {
	for _, z := range []size{{1, 1}, {2, 2}, {10, 1}, {254, 1}} {
		b := made(t, z, 500, pool.New(100, 400))
		most := 400 * z.room()
		for _, long := range []int{most + 1, most + 2, most + z.room(), most + z.room() + 1} {
			b.refused(t, z.name()+", of 401", make([]byte, long), api.ErrLarge)
		}
		for _, long := range []int{most, most - 1, most - z.room() + 1} {
			now, x := b.copy(), text(3, long)
			s := now.puts(t, z.name(), x)
			if s.Scroll != (api.Scroll{Place: 100, Count: 400, Size: long}) || now.p.Free() != 0 {
				t.Errorf("%s: Put(%d bytes) = %v, and %d are free", z.name(), long, s.Scroll, now.p.Free())
			}
			for i, place := range s.places {
				if place != 100+i {
					t.Fatalf("%s: the place %d is %d", z.name(), i, place)
				}
			}
			now.gets(t, z.name(), s, x)
			now.refused(t, z.name()+", none is free", nil, api.ErrSpace)
		}
		now, x := b.copy(), text(4, most-z.room())
		s := now.puts(t, z.name(), x)
		if s.Count != 399 || now.p.Free() != 1 {
			t.Errorf("%s: of 399 Put = %v", z.name(), s.Scroll)
		}
		now.gets(t, z.name(), s, x)
		now.refused(t, z.name()+", one is free", make([]byte, most), api.ErrSpace)
	}
}

// Each text gets places and generations of its own, none of another one's, and all of them are got.
func TestPutOneBehindTheOther(t *testing.T) {
	for _, z := range some() {
		b := made(t, z, 600, pool.New(200, 400))
		var all []sheet
		var texts [][]byte
		next, place := uint64(0), 200
		for i, long := range append(z.lengths(9), 0, 0, 1, z.room()) {
			x := text(3*i, long)
			s := b.puts(t, z.name(), x)
			if s.Scroll != (api.Scroll{Place: place, Gen: next, Count: z.count(long), Size: long}) || len(s.places) != s.Count {
				t.Errorf("%s: Put(%d bytes) = %v, from the generation %d on", z.name(), long, s, next)
			}
			for _, got := range s.places {
				if got != place {
					t.Errorf("%s: Put(%d bytes) = %v, from the place %d on", z.name(), long, s, place)
				}
				place++
			}
			next += uint64(len(s.places))
			all, texts = append(all, s), append(texts, x)
			if i%2 == 0 {
				b.a.Flush()
			}
		}
		for i, s := range all {
			b.gets(t, z.name(), s, texts[i])
		}
		if got, e := b.p.Gens(0); got != next || e != api.OK || b.p.Free() != 600-place {
			t.Errorf("%s: the pool tells %d next, and has %d free", z.name(), got, b.p.Free())
		}
	}
}

// A text of no bytes is a stripe.
func TestPutOfNothing(t *testing.T) {
	for _, z := range some() {
		for _, x := range [][]byte{nil, {}, make([]byte, 0, 500)} {
			b := made(t, z, 16, gaps())
			s := b.puts(t, z.name(), x)
			if s.Scroll != (api.Scroll{Place: 4, Gen: firstGap, Count: 1}) || !slices.Equal(s.places, []int{4}) {
				t.Errorf("%s: Put of nothing = %v", z.name(), s)
			}
			if got, e := stripe.Get(b.a, b.c, api.Ref{Kind: 4, Place: 4, Gen: firstGap}); !bytes.Equal(got, make([]byte, 10)) || e != api.OK {
				t.Errorf("%s: of nothing the stripe is %v, %d", z.name(), got, e)
			}
			b.gets(t, z.name(), s, nil)
		}
	}
}

// refused tells what goes wrong where Put is to answer an error, and all is to be as it was.
func (b bed) refused(t *testing.T, name string, x []byte, want api.Errno) {
	t.Helper()
	drives, places := shotOf(b.a), stockOf(b.p)
	if s, l, e := scroll.Put(b.a, b.c, b.p, x); s != (api.Scroll{}) || len(l) != 0 || e != want {
		t.Errorf("%s: Put(%d bytes) = %v, %v, %d, want nothing, %d", name, len(x), s, l, e, want)
	}
	b.unchanged(t, name, drives, places)
}

// A text that is too long is ErrLarge, also where nothing is free, and where no stripe could be put.
func TestPutOfTooMuch(t *testing.T) {
	for _, z := range []size{{1, 1}, {2, 1}, {1, 2}, {10, 1}, {16, 3}} {
		b := made(t, z, 16, gaps())
		for _, long := range []int{mostStripes*z.room() + 1, mostStripes*z.room() + 2, mostStripes * rowBytes * z.k, 1 << 20} {
			x := make([]byte, long)
			now := b.copy()
			now.refused(t, z.name(), x, api.ErrLarge)
			now.p.Take(now.p.Free())
			now.p.Gens(epochGens - 7)
			now.refused(t, z.name()+", nothing free", x, api.ErrLarge)
			now.a = array.New(z.n()+1, 16)
			now.refused(t, z.name()+", another number of drives", x, api.ErrLarge)
		}
		b.refused(t, z.name()+", of 400", make([]byte, mostStripes*z.room()), api.ErrSpace)
	}
}

// free answers a pool of 30 places from 0 on, of which so many are free, with taken ones and ones in limbo in between.
func free(t *testing.T, n int) *pool.Pool {
	t.Helper()
	p := pool.New(0, 30)
	var limbo []int
	for place := 0; place < 30 && p.Free() > n; place += 2 {
		p.Use(place)
		if place%4 == 0 {
			limbo = append(limbo, place)
		}
	}
	for place := 29; p.Free() > n; place -= 2 {
		p.Use(place)
	}
	p.Later(limbo)
	if p.Free() != n || p.Limbo() == 0 || len(p.Taken()) == 0 {
		t.Fatalf("a pool of %d free, %d taken, %d in limbo", p.Free(), len(p.Taken()), p.Limbo())
	}
	return p
}

func TestPutWithAsManyPlacesAsItNeeds(t *testing.T) {
	for _, z := range middle() {
		b := made(t, z, 30, free(t, 0))
		for _, long := range z.lengths(7) {
			for n := range z.count(long) {
				now := b.copy()
				now.p = free(t, n)
				now.refused(t, fmt.Sprint(z.name(), ", ", n, " free"), text(1, long), api.ErrSpace)
			}
			now := b.copy()
			now.p = free(t, z.count(long))
			was, x := stockOf(now.p), text(2, long)
			s := now.puts(t, z.name()+", just as many free", x)
			if !slices.Equal(s.places, was.free) || now.p.Free() != 0 || s.Place != was.free[0] {
				t.Errorf("%s: Put(%d bytes) took %v of %v", z.name(), long, s, was.free)
			}
			now.gets(t, z.name(), s, x)
			now.refused(t, z.name()+", none is free", nil, api.ErrSpace)
		}
	}
}

// Places in limbo are as those that are taken, until they come back.
func TestPutWithPlacesInLimbo(t *testing.T) {
	b := made(t, size{1, 1}, 4, pool.New(0, 4))
	x := text(1, 100)
	s := b.puts(t, "three of four", x)
	b.refused(t, "one is free", x, api.ErrSpace)
	b.p.Later(s.places[:2])
	b.refused(t, "two are in limbo", x, api.ErrSpace)
	b.gets(t, "two in limbo", s, x)
	b.p.Settle()
	if z := b.puts(t, "two are back", text(2, 100)); !slices.Equal(z.places, []int{0, 1, 3}) || z.Gen != 3 {
		t.Errorf("behind Settle: %v", z)
	}
}

func TestPutWithAsManyGenerationsAsItNeeds(t *testing.T) {
	for _, z := range middle() {
		b := made(t, z, 16, gaps())
		for _, long := range z.lengths(4) {
			n := z.count(long)
			for left := range n {
				now := b.copy()
				now.p.Gens(epochGens - 7 - left)
				now.refused(t, fmt.Sprint(z.name(), ", ", left, " generations left"), text(1, long), api.ErrSpace)
				if gen, e := now.p.Gens(left); gen != 4*epochGens-uint64(left) || e != api.OK {
					t.Errorf("%s: of %d generations left Gens tells %d, %d", z.name(), left, gen, e)
				}
			}
			now, x := b.copy(), text(2, long)
			now.p.Gens(epochGens - 7 - n)
			s := now.puts(t, z.name()+", just as many left", x)
			if s.Gen != 4*epochGens-uint64(n) {
				t.Errorf("%s: Put(%d bytes), just as many left = %v", z.name(), long, s)
			}
			now.gets(t, z.name(), s, x)
			now.refused(t, z.name()+", none is left", nil, api.ErrSpace)
			now.p.Begin(9)
			now.p.Give(s.places)
			if again := now.puts(t, z.name()+", the next epoch", x); again.Gen != 9*epochGens || !slices.Equal(again.places, s.places) {
				t.Errorf("%s: in the next epoch %v", z.name(), again)
			}
		}
	}
}

// Both too few places and too few generations: neither are taken.
func TestPutWithTooFewOfBoth(t *testing.T) {
	b := made(t, size{1, 1}, 30, free(t, 2))
	b.p.Gens(epochGens - 2)
	b.refused(t, "too few of both", text(1, 69), api.ErrSpace)
	s := b.puts(t, "just as many of both", text(1, 68))
	b.gets(t, "just as many of both", s, text(1, 68))
}

// comesBack tells what goes wrong where a stripe can't be put: the text's places come back, no generation that was taken is told again, and nothing is written.
func comesBack(t *testing.T, name string, b bed, x []byte) {
	t.Helper()
	for range 3 {
		drives, want := shotOf(b.a), stockOf(b.p)
		want.next += uint64(b.count(len(x)))
		if s, l, e := scroll.Put(b.a, b.c, b.p, x); s != (api.Scroll{}) || len(l) != 0 || e != api.ErrArg {
			t.Errorf("%s: Put(%d bytes) = %v, %v, %d, want nothing, %d", name, len(x), s, l, e, api.ErrArg)
		}
		b.unchanged(t, name, drives, want)
	}
}

func TestPutOnOtherDrives(t *testing.T) {
	f := field.New()
	for _, z := range []size{{1, 1}, {2, 1}, {1, 2}, {2, 2}, {9, 1}, {10, 1}, {254, 1}} {
		for _, n := range []int{1, 2, 3, 4, 5, 9, 10, 11, 254, 255} {
			if n == z.n() {
				continue
			}
			b := bed{size: z, a: array.New(n, 16), c: code.New(f, z.k, z.m), p: gaps()}
			for _, long := range append(z.texts(), 0, 1) {
				comesBack(t, fmt.Sprint(z.name(), ", ", n, " drives"), b, text(1, long))
			}
		}
	}
}

// With too few places the error is ErrSpace, also where no stripe could be put.
func TestPutOnOtherDrivesWithTooFewPlaces(t *testing.T) {
	for _, n := range []int{1, 3} {
		b := bed{size: size{1, 1}, a: array.New(n, 30), c: code.New(field.New(), 1, 1), p: free(t, 2)}
		b.refused(t, fmt.Sprint(n, " drives"), text(1, 69), api.ErrSpace)
		comesBack(t, fmt.Sprint(n, " drives"), b, text(1, 68))
	}
}

// The pool has places that the drives haven't: the first stripe, one in between, or the last one can't be put.
func TestPutPastTheLastSector(t *testing.T) {
	for _, z := range middle() {
		for sectors := 1; sectors <= 15; sectors++ {
			b := made(t, z, sectors, gaps())
			for _, long := range z.lengths(6) {
				now, x := b.copy(), text(sectors, long)
				name := fmt.Sprint(z.name(), ", ", sectors, " sectors")
				if gapPlaces()[z.count(long)-1] < sectors {
					s := now.puts(t, name, x)
					now.gets(t, name, s, x)
				} else {
					comesBack(t, name, now, x)
				}
			}
		}
	}
}

// What was stored stays got, and the places that came back are given out to the next text.
func TestPutBehindOneThatCouldNotBe(t *testing.T) {
	b := made(t, size{1, 1}, 6, pool.New(0, 10))
	x := text(1, 80)
	s := b.puts(t, "first", x)
	comesBack(t, "past the last sector", b, text(2, 120))
	b.gets(t, "first", s, x)
	z := b.puts(t, "next", text(3, 90))
	if !slices.Equal(z.places, []int{3, 4, 5}) {
		t.Errorf("the places that came back: %v", z)
	}
	b.gets(t, "first", s, x)
	b.gets(t, "next", z, text(3, 90))
}

// arrays are none, and some of three drives and of others.
func arrays() map[string]*array.Array {
	return map[string]*array.Array{
		"no array": nil, "an array that nobody made": {}, "1 drive": array.New(1, 16), "2 drives": array.New(2, 16),
		"3 drives": array.New(3, 16), "3 drives of few sectors": array.New(3, 4), "4 drives": array.New(4, 16),
	}
}

// coders are none, and those of three rows.
func coders() map[string]*code.Coder {
	l := nobodysCoders()
	l["2 and 1"], l["1 and 2"] = code.New(field.New(), 2, 1), code.New(field.New(), 1, 2)
	return l
}

// pools are none, one that has what is needed, and those that haven't.
func pools() map[string]*pool.Pool {
	full, told := gaps(), gaps()
	full.Take(full.Free())
	told.Gens(epochGens - 7)
	return map[string]*pool.Pool{"no pool": nil, "a pool that nobody made": {}, "a pool": gaps(), "a full pool": full, "a told pool": told}
}

// Each error of Put alone, and all of them with all others: the plain order of the chapter tells which one it is.
func TestErrorsOfPut(t *testing.T) {
	for an, a := range arrays() {
		for cn, c := range coders() {
			for pn, p := range pools() {
				for _, long := range []int{0, 1, 34, 200, 400*34 + 1, 400*78 + 1, 65536} {
					want := api.OK
					switch {
					case a.N() == 0 || c.N() == 0 || pn == "no pool" || pn == "a pool that nobody made":
						want = api.ErrNil
					case long > 400*(44*c.K()-10):
						want = api.ErrLarge
					case long > 10*(44*c.K()-10) || pn != "a pool":
						want = api.ErrSpace
					case a.N() != 3 || a.Sectors() == 4: // 4 is the first place of the pool
						want = api.ErrArg
					}
					// Copy of a pool that nobody made is nil.
					with := p
					if p.Free()+p.Limbo() > 0 {
						with = p.Copy()
					}
					s, l, e := scroll.Put(a, c, with, make([]byte, long))
					if e != want || e != api.OK && (s != api.Scroll{} || len(l) > 0) {
						t.Errorf("%s, %s, %s: Put(%d bytes) = %v, %v, %d, want %d", an, cn, pn, long, s, l, e, want)
					}
				}
			}
		}
	}
}

// P16.3

// Each error of Get alone, and all of them with all others.
func TestErrorsOfGet(t *testing.T) {
	scrolls := map[string]api.Scroll{
		"without stripes": {}, "of a size below 0": {Size: -1}, "of a size below 0, with one": {Size: -1, Count: 1}, "with too many": {Size: 1, Count: 2},
		"of 401": {Size: 400*78 + 1, Count: 401}, "of a place below 0": {Count: 1, Place: -1}, "of no sector": {Count: 1, Place: 16}, "that is lost": {Size: 30, Count: 1, Place: 3},
	}
	for an, a := range arrays() {
		for cn, c := range coders() {
			for name, s := range scrolls {
				want := api.ErrArg
				switch {
				case a.N() == 0 || c.N() == 0:
					want = api.ErrNil
				case name == "that is lost" && a.N() == 3:
					want = api.ErrLost
				}
				if x, l, e := scroll.Get(a, c, s); e != want || len(x) != 0 || len(l) != 0 {
					t.Errorf("%s, %s: Get of a scroll %s = %v, %v, %d, want nothing, %d", an, cn, name, x, l, e, want)
				}
			}
		}
	}
}

// changed answers a scroll with a change.
func (s sheet) changed(change func(s *api.Scroll)) api.Scroll {
	change(&s.Scroll)
	return s.Scroll
}

// A scroll that says something else than was put is refused, whatever lies on the drives.
func TestGetOfScrollsThatCanNotBe(t *testing.T) {
	for _, z := range middle() {
		b := made(t, z, 16, gaps())
		for _, long := range z.lengths(4) {
			now, x := b.copy(), text(5, long)
			s := now.puts(t, z.name(), x)
			drives := shotOf(now.a)
			for _, other := range []int{math.MinInt, math.MinInt + long, -z.room() - 1, -z.room(), -1 - long, -1, long + 1<<32, math.MaxInt} {
				now.fails(t, z.name(), s.changed(func(s *api.Scroll) { s.Size = other }), api.ErrArg)
				if other < 0 {
					// As many as Count tells of it.
					now.fails(t, z.name(), s.changed(func(s *api.Scroll) { s.Size, s.Count = other, 0 }), api.ErrArg)
				}
			}
			for _, other := range z.lengths(6) {
				if z.count(other) != s.Count {
					now.fails(t, z.name(), s.changed(func(s *api.Scroll) { s.Size = other }), api.ErrArg)
				}
			}
			for _, other := range []int{math.MinInt, -s.Count, -1, 0, s.Count - 1, s.Count + 1, s.Count + 2, 400, 401, 65536 + s.Count, 1<<32 + s.Count, math.MaxInt} {
				now.fails(t, z.name(), s.changed(func(s *api.Scroll) { s.Count = other }), api.ErrArg)
			}
			for _, other := range []int{math.MinInt, math.MinInt + s.Place, s.Place - 65536, -600, -s.Place, -1, 16, 17, 600, 65536 + s.Place, 1<<32 + s.Place, math.MaxInt} {
				now.fails(t, z.name(), s.changed(func(s *api.Scroll) { s.Place = other }), api.ErrArg)
				now.fails(t, z.name(), s.changed(func(s *api.Scroll) { s.Place, s.Gen = other, 0 }), api.ErrArg)
			}
			now.gets(t, z.name(), s, x)
			now.unchanged(t, z.name(), drives, stockOf(now.p))
		}
	}
}

// More than 400 stripes are refused, also where Count is that of Size; 400 aren't.
func TestGetOfTooMany(t *testing.T) {
	for _, z := range middle() {
		b := made(t, z, 16, gaps())
		s := b.puts(t, z.name(), text(1, 100))
		for _, n := range []int{401, 402, 500, 600, 65536, 65537, 1 << 32} {
			for _, long := range []int{n * z.room(), (n-1)*z.room() + 1} {
				b.fails(t, z.name(), api.Scroll{Place: s.Place, Gen: s.Gen, Count: n, Size: long}, api.ErrArg)
			}
		}
		b.fails(t, z.name(), api.Scroll{Place: s.Place, Gen: s.Gen, Count: math.MaxInt / z.room(), Size: math.MaxInt / z.room() * z.room()}, api.ErrArg)
		b.fails(t, z.name(), api.Scroll{Place: s.Place, Gen: s.Gen + 1, Count: 400, Size: 400 * z.room()}, api.ErrLost)
	}
}

func TestGetOnOtherDrives(t *testing.T) {
	f := field.New()
	for _, z := range []size{{1, 1}, {2, 1}, {1, 2}, {2, 2}, {10, 1}} {
		b := made(t, z, 16, gaps())
		x := text(5, 170)
		s := b.puts(t, z.name(), x)
		for _, n := range []int{1, 2, 3, 4, 5, 10, 11, 12, 255} {
			if n == z.n() {
				continue
			}
			bed{size: z, a: array.New(n, 16), c: b.c}.fails(t, fmt.Sprint(z.name(), ", ", n, " drives"), s.Scroll, api.ErrArg)
			if c := code.New(f, z.k, n-z.k); c != nil {
				bed{size: z, a: b.a, c: c}.fails(t, fmt.Sprint(z.name(), ", a coder of ", n), s.Scroll, api.ErrArg)
			}
		}
		b.gets(t, z.name(), s, x)
	}
}

// Errors come ahead of ErrLost, and without an array or a coder ErrNil ahead of these.
func TestGetWithoutAnArrayOrACoder(t *testing.T) {
	b := made(t, size{2, 1}, 16, gaps())
	x := text(1, 300)
	s := b.puts(t, "a text", x)
	for _, wrong := range []api.Scroll{s.Scroll, {}, {Size: -1}, {Count: 401, Size: 401 * 78}, {Count: 1, Place: -1}, {Count: 1, Place: 16}, {Count: 1, Place: 5}} {
		for name, c := range nobodysCoders() {
			bed{a: b.a, c: c}.fails(t, name, wrong, api.ErrNil)
			bed{c: c}.fails(t, name+", no array", wrong, api.ErrNil)
			bed{a: new(array.Array), c: c}.fails(t, name+", an array that nobody made", wrong, api.ErrNil)
		}
		bed{c: b.c}.fails(t, "no array", wrong, api.ErrNil)
		bed{a: new(array.Array), c: b.c}.fails(t, "an array that nobody made", wrong, api.ErrNil)
	}
	b.gets(t, "a text", s, x)
}

// Stripes that nobody put as a scroll, but that lie there, are followed, wherever and of whatever generation they are.
func TestGetOfStripesThatLieThere(t *testing.T) {
	for _, z := range some() {
		b := made(t, z, 16, gaps())
		x := text(7, 4*z.room()+9)
		l := z.leaves(x, []int{15, 0, 3, 2, 9}, 0)
		for i, gen := range []uint64{mostGen, 0, 1<<60 - 1, 5, 1 << 63} {
			l[i].gen = gen
			if i > 0 {
				l[i-1].after = gen
			}
		}
		b.lay(t, l...)
		b.gets(t, z.name(), sheet{api.Scroll{Place: 15, Gen: mostGen, Count: 5, Size: len(x)}, []int{15, 0, 3, 2, 9}}, x)
	}
}

// Each fault of a stripe alone: the first one, one in between, and the last one.
func TestGetOfStripesWithAFault(t *testing.T) {
	for _, z := range middle() {
		for _, long := range []int{5, z.room(), z.room() + 1, 3*z.room() - 1, 4 * z.room()} {
			b, x := made(t, z, 16, gaps()), text(7, long)
			s := b.puts(t, z.name(), x)
			good := z.leaves(x, s.places, s.Gen)
			for i, was := range good {
				for name, f := range faults(was, z, i == len(good)-1) {
					now := b.copy()
					now.lay(t, f.leaf)
					now.fails(t, fmt.Sprint(z.name(), ", ", long, " bytes, stripe ", i, ": ", name), s.Scroll, f.e)
				}
				now := b.copy()
				now.lay(t, was)
				now.gets(t, z.name()+", the same again", s, x)
			}
		}
	}
}

// fault is a stripe instead of another one, and what is told of it.
type fault struct {
	leaf
	e api.Errno
}

// faults are what may be wrong with a stripe.
func faults(l leaf, z size, last bool) map[string]fault {
	to := func(place int, gen uint64) leaf {
		c := l
		c.next, c.after = place, gen
		return c
	}
	of := func(text []byte) leaf {
		c := l
		c.text = text
		return c
	}
	long := append(bytes.Clone(l.text), make([]byte, z.room())...)
	all := map[string]fault{
		"one byte less": {of(long[:max(len(l.text)-1, 0)]), api.ErrForm},
		"no text":       {of(nil), api.ErrForm},
		"no sector":     {to(16, 5), api.ErrForm},
		"the place 600": {to(600, 5), api.ErrForm},
		"the last of 2": {to(65535, 5), api.ErrForm},
		"a lost one":    {to(1, 5), api.ErrLost},
		"its own gen":   {to(l.place, l.gen+1), api.ErrLost},
		"its own place": {to(1, l.gen), api.ErrLost},
	}
	if len(l.text) < z.room() {
		all["one byte more"] = fault{of(long[:len(l.text)+1]), api.ErrForm}
		all["full"] = fault{of(long[:z.room()]), api.ErrForm}
	}
	if last {
		for _, name := range []string{"a lost one", "its own gen", "its own place"} {
			all[name] = fault{all[name].leaf, api.ErrForm}
		}
		all["itself"] = fault{to(l.place, l.gen), api.ErrForm}
		all["a generation alone"] = fault{to(0, 1), api.ErrForm}
		all["the highest bit"] = fault{to(0, 1<<63), api.ErrForm}
		all["a place alone"] = fault{to(1, 0), api.ErrForm}
		all["a great place alone"] = fault{to(256, 0), api.ErrForm}
		return all
	}
	all["none"] = fault{to(0, 0), api.ErrLost}
	all["a generation above"] = fault{to(l.next, l.after+1), api.ErrLost}
	all["a generation below"] = fault{to(l.next, l.after-1), api.ErrLost}
	all["a far generation"] = fault{to(l.next, l.after+1<<63), api.ErrLost}
	return all
}

// A stripe that has fewer bytes than stand ahead of the text, whichever it is.
func TestGetOfStripesOfFewBytes(t *testing.T) {
	for _, z := range middle() {
		for _, texts := range []int{0, 1, z.room(), 2*z.room() + 3} {
			b, x := made(t, z, 16, gaps()), text(7, texts)
			s := b.puts(t, z.name(), x)
			for i, was := range z.leaves(x, s.places, s.Gen) {
				for long := 0; long <= rowBytes*z.k; long++ {
					now := b.copy()
					stripe.Put(now.a, now.c, was.ref(), slices.Concat(was.bytes(), make([]byte, rowBytes*z.k))[:long])
					if long == headBytes+len(was.text) {
						now.gets(t, z.name(), s, x)
					} else {
						now.fails(t, fmt.Sprint(z.name(), ", ", texts, " bytes, stripe ", i, " of ", long), s.Scroll, api.ErrForm)
					}
				}
			}
		}
	}
}

// A Size that needs as many stripes, but isn't the text's.
func TestGetOfAnotherSize(t *testing.T) {
	for _, z := range middle() {
		b := made(t, z, 16, gaps())
		for _, long := range z.lengths(3) {
			now, x := b.copy(), text(7, long)
			s := now.puts(t, z.name(), x)
			for _, other := range append(z.lengths(3), max(long-1, 0), long+1) {
				if other != long && z.count(other) == s.Count {
					now.fails(t, fmt.Sprint(z.name(), ", ", long, " bytes as ", other), s.changed(func(s *api.Scroll) { s.Size = other }), api.ErrForm)
				}
			}
		}
	}
}

// A scroll's end by itself is one, but not a beginning of it.
func TestGetFromTheMidst(t *testing.T) {
	for _, z := range middle() {
		b, x := made(t, z, 16, gaps()), text(7, 3*z.room()+4)
		s := b.puts(t, z.name(), x)
		for i := range s.Count {
			part := sheet{api.Scroll{Place: s.places[i], Gen: s.Gen + uint64(i), Count: s.Count - i, Size: len(x) - i*z.room()}, s.places[i:]}
			b.gets(t, z.name(), part, x[i*z.room():])
			if i > 0 {
				b.fails(t, z.name(), s.changed(func(s *api.Scroll) { s.Count, s.Size = i, i*z.room() }), api.ErrForm)
			}
		}
	}
}

// One that tells of itself, or of one that was gone through already, ends all the same: the last one isn't as long as it should be, or tells of another one.
func TestGetInARing(t *testing.T) {
	for _, z := range small() {
		b, x := made(t, z, 16, gaps()), text(7, 4*z.room())
		s := b.puts(t, z.name(), x)
		good := z.leaves(x, s.places, s.Gen)
		for i := range good {
			for to := range i + 1 {
				now, l := b.copy(), good[i]
				l.next, l.after = good[to].place, good[to].gen
				now.lay(t, l)
				for _, n := range []int{i + 1, i + 2, 7, 13, 399, 400} {
					for _, long := range []int{n * z.room(), (n-1)*z.room() + 1} {
						if i < 3 || n > 4 {
							now.fails(t, z.name(), s.changed(func(s *api.Scroll) { s.Count, s.Size = n, long }), api.ErrForm)
						}
					}
				}
			}
		}
	}
}

// The first place of a pool with its first generation is told by noughts: as the next one it is that stripe, as the last one's none.
func TestGetOfTheStripeOfNoughts(t *testing.T) {
	b := made(t, size{1, 1}, 4, pool.New(0, 4))
	x := text(1, 34)
	s := b.puts(t, "one stripe", x)
	if s.Scroll != (api.Scroll{Count: 1, Size: 34}) {
		t.Errorf("the first scroll is %v", s)
	}
	b.gets(t, "one stripe", s, x)
	for _, n := range []int{2, 3, 400} {
		b.gets(t, "the same again", sheet{api.Scroll{Count: n, Size: n * 34}, make([]int, n)}, bytes.Repeat(x, n))
		b.fails(t, "a shorter last one", api.Scroll{Count: n, Size: n*34 - 1}, api.ErrForm)
	}
	b.lay(t, leaf{place: 2, gen: 9, text: text(2, 34)})
	b.gets(t, "another one ahead", sheet{api.Scroll{Place: 2, Gen: 9, Count: 2, Size: 68}, []int{2, 0}}, append(text(2, 34), x...))
}

// walk is what the chapter says of three stripes, step by step, each of which is at its place: the text, the places, and the error.
func walk(b bed, leaves []leaf, s api.Scroll) ([]byte, []int, api.Errno) {
	var x []byte
	var places []int
	place, gen := s.Place, s.Gen
	for i := 1; i <= s.Count; i++ {
		at := slices.IndexFunc(leaves, func(l leaf) bool { return l.place == place && l.gen == gen })
		if place >= b.a.Sectors() {
			return nil, nil, api.ErrForm
		}
		if at < 0 {
			return nil, nil, api.ErrLost
		}
		l := leaves[at]
		if i < s.Count && len(l.text) != b.room() || i == s.Count && len(l.text) != s.Size-(i-1)*b.room() {
			return nil, nil, api.ErrForm
		}
		x, places = append(x, l.text...), append(places, place)
		place, gen = l.next, l.after
	}
	if place != 0 || gen != 0 {
		return nil, nil, api.ErrForm
	}
	return x, places, api.OK
}

// Three stripes, each of which tells of each other one, of itself, of none, of one that is lost, and of one that couldn't be one, and is full or not; from each of them on, with each number of stripes.
func TestGetOfEachChain(t *testing.T) {
	b := made(t, size{1, 1}, 8, gaps())
	names := []leaf{{place: 3, gen: 9}, {place: 7, gen: 1 << 40}, {place: 5, gen: 2}}
	type told struct {
		place int
		gen   uint64
	}
	ways := []told{{3, 9}, {7, 1 << 40}, {5, 2}, {0, 0}, {5, 3}, {4, 2}, {8, 2}}
	lengths := []int{34, 20}
	options := len(ways) * len(lengths)
	for set := range options * options * options {
		leaves := slices.Clone(names)
		for i, rest := 0, set; i < len(leaves); i, rest = i+1, rest/options {
			way := ways[rest%len(ways)]
			leaves[i].next, leaves[i].after = way.place, way.gen
			leaves[i].text = text(i, lengths[rest%options/len(ways)])
		}
		now := bed{size: b.size, a: b.a.Copy(), c: b.c}
		now.lay(t, leaves...)
		for n := 1; n <= 4; n++ {
			for _, last := range lengths {
				s := api.Scroll{Place: 3, Gen: 9, Count: n, Size: 34*(n-1) + last}
				x, places, e := walk(now, leaves, s)
				got, l, wrong := scroll.Get(now.a, now.c, s)
				if !bytes.Equal(got, x) || !slices.Equal(l, places) || wrong != e {
					t.Fatalf("Get(%v) of %v = %v, %v, %d, want %v, %v, %d", s, leaves, got, l, wrong, x, places, e)
				}
			}
		}
	}
}

// Two faults in one scroll: the first that is met.
func TestGetOfTwoFaults(t *testing.T) {
	for _, z := range []size{{1, 1}, {2, 1}, {1, 2}, {3, 2}} {
		b, x := made(t, z, 16, gaps()), text(7, 3*z.room()-1)
		s := b.puts(t, z.name(), x)
		good := z.leaves(x, s.places, s.Gen)
		for first := range good {
			for fn, f := range faults(good[first], z, first == 2) {
				for second := first + 1; second < len(good); second++ {
					for gn, g := range faults(good[second], z, second == 2) {
						now := b.copy()
						now.lay(t, f.leaf, g.leaf)
						now.fails(t, fmt.Sprint(z.name(), ", stripes ", first, " and ", second, ": ", fn, ", ", gn), s.Scroll, f.e)
					}
					// One that is lost comes behind one that isn't as it should be, and ahead of the next one.
					now := b.copy()
					now.lay(t, f.leaf)
					now.loses(s.places[second])
					now.fails(t, fmt.Sprint(z.name(), ", stripe ", first, ", ", fn, ", and ", second, " lost"), s.Scroll, f.e)
				}
				for lost := range first {
					now := b.copy()
					now.lay(t, f.leaf)
					now.loses(s.places[lost])
					now.fails(t, fmt.Sprint(z.name(), ", stripe ", first, ", ", fn, ", and ", lost, " lost"), s.Scroll, api.ErrLost)
				}
			}
		}
	}
}

// loses writes over a place.
func (b bed) loses(place int) {
	for d := range b.n() {
		b.a.Write(d, place, make([]byte, 64))
	}
}

// Stripes of another kind, of another generation, or written since: the scroll is lost.
func TestGetOfOtherStripes(t *testing.T) {
	for _, z := range small() {
		b, x := made(t, z, 16, gaps()), text(7, 3*z.room()-1)
		s := b.puts(t, z.name(), x)
		for i, l := range z.leaves(x, s.places, s.Gen) {
			for name, other := range map[string]api.Ref{
				"a head":                 {Kind: 1, Place: l.place, Gen: l.gen},
				"of the log":             {Kind: 2, Place: l.place, Gen: l.gen},
				"of a value":             {Kind: 3, Place: l.place, Gen: l.gen},
				"of the next generation": {Kind: 4, Place: l.place, Gen: l.gen + 1},
				"of the one ahead":       {Kind: 4, Place: l.place, Gen: l.gen - 1},
				"of a far generation":    {Kind: 4, Place: l.place, Gen: l.gen + 1<<63},
			} {
				now := b.copy()
				if _, e := stripe.Put(now.a, now.c, other, l.bytes()); e != api.OK {
					t.Fatalf("%s: %v can't be put: %d", z.name(), other, e)
				}
				now.fails(t, fmt.Sprint(z.name(), ", stripe ", i, ", ", name), s.Scroll, api.ErrLost)
			}
			now := b.copy()
			now.loses(l.place)
			now.fails(t, fmt.Sprint(z.name(), ", stripe ", i, " written over"), s.Scroll, api.ErrLost)
		}
		for _, more := range []uint64{1, 2, 1 << 20, 1 << 63, mostGen} {
			b.fails(t, z.name()+", another generation", s.changed(func(s *api.Scroll) { s.Gen += more }), api.ErrLost)
		}
		for place := range 16 {
			if place != s.Place {
				b.fails(t, z.name()+", another place", s.changed(func(s *api.Scroll) { s.Place = place }), api.ErrLost)
			}
		}
	}
}

// A place that came back is another text's: the first one is lost, and the other one is got.
func TestGetBehindAnotherPut(t *testing.T) {
	for _, z := range small() {
		for i := range 4 {
			b, x := made(t, z, 16, gaps()), text(7, 3*z.room()+5)
			s := b.puts(t, z.name(), x)
			b.p.Give(s.places[i : i+1])
			b.gets(t, z.name()+", a place came back", s, x)
			other := b.puts(t, z.name(), text(9, 3))
			if !slices.Equal(other.places, s.places[i:i+1]) {
				t.Fatalf("%s: the place is %v, of %v", z.name(), other, s)
			}
			b.fails(t, fmt.Sprint(z.name(), ", stripe ", i), s.Scroll, api.ErrLost)
			b.gets(t, z.name(), other, text(9, 3))
		}
	}
}

// Faults of drives

// laid answers a bed with a text that was flushed, and other texts ahead of it and behind it.
func laid(t *testing.T, z size, x []byte) (bed, sheet) {
	t.Helper()
	b := made(t, z, 16, pool.New(1, 15))
	b.puts(t, z.name(), text(100, z.room()+1))
	s := b.puts(t, z.name(), x)
	b.puts(t, z.name(), text(101, 3*z.room()))
	b.a.Flush()
	return b, s
}

// Each set of drives dead, then with new ones in their places.
func TestGetBehindFail(t *testing.T) {
	for _, z := range small() {
		for _, long := range z.texts() {
			x := text(7, long)
			b, s := laid(t, z, x)
			for set := range 1 << z.n() {
				now, gone := b.copy(), bits(set, z.n())
				name := fmt.Sprint(z.name(), ", ", long, " bytes, dead ", gone)
				for d, is := range gone {
					if is {
						now.a.Fail(d)
					}
				}
				now.gotOrLost(t, name, s, x, many(gone) <= z.m)
				for d, is := range gone {
					if is {
						now.a.Replace(d)
					}
				}
				now.gotOrLost(t, name+", and new ones", s, x, many(gone) <= z.m)
				if many(gone) > z.m {
					continue
				}
				for i, place := range s.places {
					stripe.Mend(now.a, now.c, api.Ref{Kind: 4, Place: place, Gen: s.Gen + uint64(i)})
				}
				for d := range z.m {
					now.a.Fail(d)
				}
				now.gets(t, name+", mended, and others dead", s, x)
			}
		}
	}
}

// Of many drives any m may die, and one more may not.
func TestGetBehindManyFail(t *testing.T) {
	for _, z := range []size{{1, 254}, {254, 1}, {127, 128}, {16, 3}, {9, 2}} {
		x := text(7, 2*z.room()+1)
		b, s := laid(t, z, x)
		for first := range 5 {
			now := b.copy()
			for i := range z.m {
				now.a.Fail((first*50 + i) % z.n())
			}
			now.gets(t, fmt.Sprint(z.name(), ", m dead"), s, x)
			now.a.Fail((first*50 + z.m) % z.n())
			now.fails(t, fmt.Sprint(z.name(), ", m + 1 dead"), s.Scroll, api.ErrLost)
		}
	}
}

// Each set of each stripe's shards rots: the text is lost, if one stripe alone lost too many.
func TestGetBehindRot(t *testing.T) {
	for _, z := range small() {
		for _, long := range z.texts() {
			x := text(7, long)
			b, s := laid(t, z, x)
			for i := range s.places {
				for set := range 1 << z.n() {
					now, gone := b.copy(), bits(set, z.n())
					for index, is := range gone {
						if is {
							now.rot(s, i, index)
						}
					}
					now.gotOrLost(t, fmt.Sprint(z.name(), ", ", long, " bytes, stripe ", i, ", rotten ", gone), s, x, many(gone) <= z.m)
				}
			}
		}
	}
}

// Each stripe loses as many shards as may be, of other drives each; then one of them loses one more.
func TestGetWithEachStripeAtItsWorst(t *testing.T) {
	for _, z := range middle() {
		for _, long := range z.texts() {
			x := text(7, long)
			b, s := laid(t, z, x)
			for i := range s.places {
				for lost := range z.m {
					b.rot(s, i, (i*3+lost)%z.n())
				}
			}
			name := fmt.Sprint(z.name(), ", ", long, " bytes")
			b.gets(t, name, s, x)
			for i := range s.places {
				now := b.copy()
				now.rot(s, i, (i*3+z.m)%z.n())
				now.fails(t, fmt.Sprint(name, ", stripe ", i), s.Scroll, api.ErrLost)
			}
		}
	}
}

// Each set of two stripes' writes that wait is kept in a crash: the text is there, if of each stripe k are. They wait in the stripes' order.
func TestGetBehindACrash(t *testing.T) {
	for _, z := range []size{{1, 1}, {2, 1}, {1, 2}, {2, 2}, {1, 3}} {
		x := text(7, z.room()+5)
		b := made(t, z, 16, gaps())
		s := b.puts(t, z.name(), x)
		for set := range 1 << (2 * z.n()) {
			now, kept := b.copy(), bits(set, 2*z.n())
			lists := make([][]bool, z.n())
			there := [2]int{}
			for d := range lists {
				lists[d] = kept[2*d : 2*d+2]
				for i, is := range lists[d] {
					if is {
						there[i]++
					}
				}
			}
			now.a.Crash(lists)
			name := fmt.Sprint(z.name(), ", kept ", kept)
			now.gotOrLost(t, name, s, x, there[0] >= z.k && there[1] >= z.k)
			// The last stripe is a text by itself.
			end := sheet{api.Scroll{Place: s.places[1], Gen: s.Gen + 1, Count: 1, Size: 5}, s.places[1:]}
			now.gotOrLost(t, name, end, x[z.room():], there[1] >= z.k)
		}
	}
}

// What was flushed is there behind a crash; a text that was put since is got just if enough of it was kept.
func TestGetBehindFlushAndCrash(t *testing.T) {
	for _, z := range small() {
		x := text(7, 2*z.room()+5)
		b, s := laid(t, z, x)
		other := b.puts(t, z.name(), text(8, z.room()+60))
		for _, keep := range []bool{false, true} {
			now := b.copy()
			lists := make([][]bool, z.n())
			for d := range lists {
				lists[d] = slices.Repeat([]bool{keep}, 20)
			}
			now.a.Crash(lists)
			now.gets(t, z.name(), s, x)
			now.gotOrLost(t, z.name(), other, text(8, z.room()+60), keep)
		}
	}
}

// Shards that a dead drive didn't take are missing; the text is put all the same.
func TestPutWithDeadDrives(t *testing.T) {
	for _, z := range small() {
		for set := range 1 << z.n() {
			b, gone := made(t, z, 16, gaps()), bits(set, z.n())
			for d, is := range gone {
				if is {
					b.a.Fail(d)
				}
			}
			x := text(2, 2*z.room()+1)
			s := b.puts(t, z.name(), x)
			if s.Scroll != (api.Scroll{Place: 4, Gen: firstGap, Count: 3, Size: len(x)}) || !slices.Equal(s.places, []int{4, 6, 7}) {
				t.Errorf("%s, dead %v: Put = %v", z.name(), gone, s)
			}
			b.gotOrLost(t, fmt.Sprint(z.name(), ", dead ", gone), s, x, many(gone) <= z.m)
		}
	}
}

// P16.4

// plain is a scroll as bytes: of each number the lowest ones.
func plain(s api.Scroll) []byte {
	return slices.Concat(fixed(uint64(s.Place), 2), fixed(s.Gen, 8), fixed(uint64(s.Count), 2), fixed(uint64(s.Size), 4))
}

// edges are numbers about the greatest of so many bits, and others.
func edges(width int) []uint64 {
	l := []uint64{0, 1, 2, 5, 127, 128, 255, 256, 258, 300, 599, 600, 65534, 65535}
	for bit := 8; bit <= width; bit += 8 {
		l = append(l, uint64(1)<<bit-1, uint64(1)<<(bit-1), uint64(0x0123456789abcdef)>>(64-bit))
	}
	return slices.DeleteFunc(l, func(n uint64) bool { return width < 64 && n >= uint64(1)<<width })
}

// scrolls are those whose numbers fill their bytes, or don't.
func scrolls() []api.Scroll {
	l := []api.Scroll{{}, {Place: 258, Gen: 1, Count: 2, Size: 3}, {Place: 65535, Gen: mostGen, Count: 65535, Size: 1<<32 - 1}}
	for _, n := range edges(16) {
		l = append(l, api.Scroll{Place: int(n), Gen: 300, Count: 7, Size: 9}, api.Scroll{Place: 7, Gen: 300, Count: int(n), Size: 9}, api.Scroll{Place: int(n)}, api.Scroll{Count: int(n)})
	}
	for _, n := range edges(64) {
		l = append(l, api.Scroll{Place: 7, Gen: n, Count: 8, Size: 9}, api.Scroll{Gen: n})
	}
	for _, n := range edges(32) {
		l = append(l, api.Scroll{Place: 7, Gen: 300, Count: 8, Size: int(n)}, api.Scroll{Size: int(n)})
	}
	return l
}

// outs are what stands ahead, each with room behind it that is somebody else's.
func outs() [][]byte {
	return [][]byte{nil, {}, {0}, {128, 1}, text(3, 300), make([]byte, 0, 600), text(4, 3000)[:9]}
}

// writes tells what goes wrong where a scroll is put as bytes behind whatever stands ahead.
func writes(t *testing.T, s api.Scroll, want []byte) {
	t.Helper()
	for _, out := range outs() {
		room := bytes.Clone(out[:cap(out)])
		got := scroll.PutBytes(out, s)
		if all := slices.Concat(out, want); !bytes.Equal(got, all) {
			t.Errorf("PutBytes(%d bytes, %v) = %x, want %x", len(out), s, got, all)
		}
		clear(got[:cap(got)])
		if !bytes.Equal(out[:cap(out)], room) {
			t.Errorf("PutBytes(%d bytes, %v) changed them, or what stands behind them, or answered them", len(out), s)
		}
	}
}

func TestPutBytes(t *testing.T) {
	for _, s := range scrolls() {
		writes(t, s, plain(s))
	}
}

// Of numbers that are greater than their bytes hold, and of those below 0, the lowest bytes stand there.
func TestPutBytesOfOtherNumbers(t *testing.T) {
	for _, c := range []struct {
		n    int
		last []byte // its lowest four
	}{
		{65536, []byte{0, 0, 1, 0}}, {65537, []byte{1, 0, 1, 0}}, {0x123456789a, []byte{0x9a, 0x78, 0x56, 0x34}}, {1 << 32, []byte{0, 0, 0, 0}}, {1<<32 + 5, []byte{5, 0, 0, 0}},
		{math.MaxInt, []byte{255, 255, 255, 255}}, {-1, []byte{255, 255, 255, 255}}, {-2, []byte{254, 255, 255, 255}}, {-256, []byte{0, 255, 255, 255}},
		{-65536, []byte{0, 0, 255, 255}}, {-1 << 32, []byte{0, 0, 0, 0}}, {math.MinInt, []byte{0, 0, 0, 0}}, {math.MinInt + 7, []byte{7, 0, 0, 0}},
	} {
		writes(t, api.Scroll{Place: c.n, Gen: 1, Count: 2, Size: 3}, slices.Concat(c.last[:2], []byte{1, 0, 0, 0, 0, 0, 0, 0, 2, 0, 3, 0, 0, 0}))
		writes(t, api.Scroll{Place: 9, Gen: 1, Count: c.n, Size: 3}, slices.Concat([]byte{9, 0, 1, 0, 0, 0, 0, 0, 0, 0}, c.last[:2], []byte{3, 0, 0, 0}))
		writes(t, api.Scroll{Place: 9, Gen: 1, Count: 2, Size: c.n}, slices.Concat([]byte{9, 0, 1, 0, 0, 0, 0, 0, 0, 0, 2, 0}, c.last))
		writes(t, api.Scroll{Place: c.n, Gen: mostGen, Count: c.n, Size: c.n}, slices.Concat(c.last[:2], bytes.Repeat([]byte{255}, 8), c.last[:2], c.last))
	}
}

// reads tells what goes wrong where a text from a place on is a scroll, or a fault.
func reads(t *testing.T, b []byte, at int, want api.Scroll, wrong api.Errno) {
	t.Helper()
	was := bytes.Clone(b)
	if s, e := scroll.GetBytes(b, at); s != want || e != wrong {
		t.Errorf("GetBytes(%x, %d) = %v, %d, want %v, %d", b, at, s, e, want, wrong)
	}
	if !bytes.Equal(b, was) {
		t.Errorf("GetBytes(%x, %d) changed it", was, at)
	}
}

func TestGetBytes(t *testing.T) {
	for _, s := range scrolls() {
		b := plain(s)
		for _, ahead := range [][]byte{nil, {0}, {128}, text(3, 200)} {
			for _, behind := range [][]byte{nil, {0}, {128}, {255, 255}, text(9, 40)} {
				reads(t, slices.Concat(ahead, b, behind), len(ahead), s, api.OK)
			}
		}
		if again, e := scroll.GetBytes(scroll.PutBytes([]byte{9}, s), 1); again != s || e != api.OK {
			t.Errorf("%v is got as %v, %d", s, again, e)
		}
	}
}

// Each sixteen bytes are a scroll's, and put again they are the same.
func TestBytesThereAndBack(t *testing.T) {
	for seed := range 256 {
		b := text(seed, 16)
		for i := range b {
			b[i] ^= byte(seed * i)
		}
		s, e := scroll.GetBytes(b, 0)
		if again := scroll.PutBytes(nil, s); !bytes.Equal(again, b) || e != api.OK {
			t.Errorf("%x are %v, %d, and put again %x", b, s, e, again)
		}
	}
}

// Cut off behind each byte it is too short, from whatever place it is read.
func TestGetBytesCutOff(t *testing.T) {
	for _, s := range scrolls() {
		b := plain(s)
		for long := range b {
			reads(t, b[:long], 0, api.Scroll{}, api.ErrShort) // what stands behind a text's end is nobody's
			reads(t, append(text(9, 7), b[:long]...), 7, api.Scroll{}, api.ErrShort)
		}
	}
}

func TestGetBytesOfPlaces(t *testing.T) {
	s := api.Scroll{Place: 258, Gen: 1, Count: 2, Size: 3}
	b := slices.Concat([]byte{9, 9}, plain(s), []byte{7, 7})
	for _, text := range [][]byte{nil, {}, {0, 0, 0}, b[2:18], b} {
		for _, at := range []int{math.MinInt, math.MinInt + 2, -600, -16, -2, -1, len(text) + 1, len(text) + 2, len(text) + 16, 1<<32 + 2, math.MaxInt - 1, math.MaxInt} {
			reads(t, text, at, api.Scroll{}, api.ErrArg)
		}
		for at := max(len(text)-15, 0); at <= len(text); at++ {
			reads(t, text, at, api.Scroll{}, api.ErrShort)
		}
	}
	reads(t, b, 2, s, api.OK)
	reads(t, b, 4, api.Scroll{Place: 1, Gen: 2 << 48, Count: 3, Size: 7<<24 + 7<<16}, api.OK)
}

// P16.5

// What was put is got, with its places, there and back as bytes, if each stripe lost at most m shards; it is lost, if one of them lost more: each set of them, of each stripe another one.
func TestWhatWasPutIsGot(t *testing.T) {
	for _, z := range small() {
		for _, long := range z.lengths(4) {
			x := text(long, long)
			b, s := laid(t, z, x)
			read, e := scroll.GetBytes(scroll.PutBytes([]byte{9}, s.Scroll), 1)
			if read != s.Scroll || e != api.OK {
				t.Errorf("%s: %v as bytes is %v, %d", z.name(), s.Scroll, read, e)
			}
			for set := range 1 << z.n() {
				now, within := b.copy(), true
				for i := range s.places {
					gone := bits((set+i*5)%(1<<z.n()), z.n())
					within = within && many(gone) <= z.m
					for index, is := range gone {
						if is {
							now.rot(s, i, index)
						}
					}
				}
				now.gotOrLost(t, fmt.Sprint(z.name(), ", ", long, " bytes, set ", set), sheet{read, s.places}, x, within)
			}
		}
	}
}

// Texts are put and given back in turn: each takes just what it needs, and none of another one's places.
func TestTakesAsManyAsItNeeds(t *testing.T) {
	for _, z := range small() {
		b := made(t, z, 40, pool.New(0, 40))
		kept := map[int]sheet{}
		held, told := 0, 0
		long := func(step int) int { return step * 37 % (8*z.room() + 1) }
		for step := range 200 {
			before, n := b.p.Free(), z.count(long(step))
			s, l, e := scroll.Put(b.a, b.c, b.p, text(step, long(step)))
			if n > before {
				if e != api.ErrSpace || b.p.Free() != before {
					t.Fatalf("%s, step %d: Put(%d bytes) = %v, %d, of %d free", z.name(), step, long(step), s, e, before)
				}
			} else {
				kept[step] = sheet{s, l}
				held += n
				told += n
			}
			if old, is := kept[step-7]; is && step%3 > 0 {
				b.p.Give(old.places)
				held -= len(old.places)
				delete(kept, step-7)
			}
			if gen, _ := b.p.Gens(0); b.p.Free() != 40-held || gen != uint64(told) {
				t.Fatalf("%s, step %d: %d are free, and %d is told next, with %d held, and %d told", z.name(), step, b.p.Free(), gen, held, told)
			}
		}
		for step, s := range kept {
			b.gets(t, fmt.Sprint(z.name(), ", step ", step), s, text(step, long(step)))
		}
	}
}

// Rules

// R3: what is handed in isn't changed, and may be changed behind the call; so may what is answered.
func TestMemory(t *testing.T) {
	for _, z := range small() {
		for _, long := range append(z.texts(), 0) {
			name := fmt.Sprint(z.name(), ", ", long, " bytes")
			b, x := made(t, z, 16, gaps()), text(7, long)
			all := append(bytes.Clone(x), 1, 2, 3)
			s := b.puts(t, name, all[:long:len(all)])
			if !bytes.Equal(all, append(bytes.Clone(x), 1, 2, 3)) {
				t.Errorf("%s: Put changed its text, or what stands behind it", name)
			}
			clear(all)
			b.gets(t, name, s, x)
			drives, places := shotOf(b.a), stockOf(b.p)
			keep := sheet{s.Scroll, slices.Clone(s.places)}
			clear(s.places[:cap(s.places)])
			b.unchanged(t, name+", the places changed", drives, places)
			got, l, _ := scroll.Get(b.a, b.c, s.Scroll)
			other, m, _ := scroll.Get(b.a, b.c, s.Scroll)
			clear(got[:cap(got)])
			clear(l[:cap(l)])
			if !bytes.Equal(other, x) || !slices.Equal(m, keep.places) {
				t.Errorf("%s: two answers share memory", name)
			}
			b.unchanged(t, name+", the answers changed", drives, places)
			b.gets(t, name, keep, x)
		}
	}
}

func TestMemoryOfBytes(t *testing.T) {
	want := api.Scroll{Place: 258, Gen: 1 << 50, Count: 2, Size: 3}
	b := scroll.PutBytes([]byte{1}, want)
	was := bytes.Clone(b)
	more, other := scroll.PutBytes(b, want), scroll.PutBytes(b, api.Scroll{})
	if !bytes.Equal(more, slices.Concat(was, plain(want))) || !bytes.Equal(other, append(was, make([]byte, 16)...)) || !bytes.Equal(b, was) {
		t.Errorf("two answers share bytes: %x, %x, %x", b, more, other)
	}
	s, _ := scroll.GetBytes(b, 1)
	clear(b)
	if s != want {
		t.Errorf("GetBytes answered what was handed in: %v", s)
	}
}

// R8: the same call on the same arguments answers the same, and looks change nothing.
func TestSameAnswers(t *testing.T) {
	for _, z := range small() {
		for _, long := range z.lengths(4) {
			one := made(t, z, 16, gaps())
			two := one.copy()
			x := text(3, long)
			s, other := one.puts(t, z.name(), x), two.puts(t, z.name(), x)
			if s.Scroll != other.Scroll || !slices.Equal(s.places, other.places) {
				t.Errorf("%s: Put(%d bytes) = %v, and %v", z.name(), long, s, other)
			}
			two.unchanged(t, z.name(), shotOf(one.a), stockOf(one.p))
			drives, places := shotOf(one.a), stockOf(one.p)
			for range 3 {
				one.gets(t, z.name(), s, x)
				one.fails(t, z.name(), s.changed(func(s *api.Scroll) { s.Gen++ }), api.ErrLost)
			}
			one.unchanged(t, z.name(), drives, places)
		}
	}
}

// R4: drives and pools that were made by two calls know nothing of one another.
func TestTwoBeds(t *testing.T) {
	one, two := made(t, size{2, 1}, 16, gaps()), made(t, size{2, 1}, 16, gaps())
	drives, places := shotOf(two.a), stockOf(two.p)
	s := one.puts(t, "one", text(1, 200))
	two.unchanged(t, "the other one", drives, places)
	two.fails(t, "the other one", s.Scroll, api.ErrLost)
	z := two.puts(t, "two", text(2, 200))
	if s.Scroll != z.Scroll || !slices.Equal(s.places, z.places) {
		t.Errorf("two puts of two beds: %v, %v", s, z)
	}
	one.gets(t, "one", s, text(1, 200))
	two.gets(t, "two", z, text(2, 200))
}

// R1: no call panics, whatever it is handed.
func TestNothingPanics(t *testing.T) {
	f := field.New()
	dead := array.New(3, 9)
	for d := range 3 {
		dead.Fail(d)
	}
	arrays := []*array.Array{nil, {}, array.New(1, 1), array.New(2, 600), array.New(3, 9), dead, array.New(255, 3)}
	coders := []*code.Coder{nil, {}, code.New(f, 1, 1), code.New(f, 2, 1), code.New(f, 1, 2), code.New(f, 254, 1), code.New(f, 1, 254), code.New(nil, 1, 1), code.New(f, 0, 0)}
	numbers := []int{math.MinInt, math.MinInt + 1, -65536, -1, 0, 1, 2, 33, 34, 35, 78, 400, 401, 599, 600, 400 * 34, 400*34 + 1, 65536, math.MaxInt - 1, math.MaxInt}
	var scrolls []api.Scroll
	for _, n := range numbers {
		for _, gen := range []uint64{0, mostGen} {
			for _, other := range numbers {
				scrolls = append(scrolls, api.Scroll{Place: n, Gen: gen, Count: 1, Size: other}, api.Scroll{Gen: gen, Count: n, Size: other}, api.Scroll{Place: n, Gen: gen, Count: other, Size: n}, api.Scroll{Place: n, Gen: gen, Count: n, Size: other})
			}
		}
	}
	for _, s := range scrolls {
		b := scroll.PutBytes(nil, s)
		for _, at := range numbers {
			scroll.GetBytes(b, at)
		}
	}
	for _, c := range coders {
		for _, n := range numbers {
			scroll.Count(c, n)
		}
		for _, a := range arrays {
			for _, p := range []*pool.Pool{nil, {}, pool.New(0, 1), pool.New(599, 1), pool.New(0, 400), gaps()} {
				for _, long := range []int{0, 1, 34, 35, 400, 400 * 34, 400*34 + 1} {
					for range 2 {
						scroll.Put(a, c, p, make([]byte, long))
					}
				}
			}
			for _, s := range scrolls {
				scroll.Get(a, c, s)
			}
		}
	}
}
