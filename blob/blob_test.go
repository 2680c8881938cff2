package blob_test

import (
	"bytes"
	"fmt"
	"hash/crc32"
	"math"
	"math/big"
	"reflect"
	"slices"
	"testing"

	"ciborium/api"
	"ciborium/array"
	"ciborium/blob"
	"ciborium/code"
	"ciborium/field"
	"ciborium/pool"
	"ciborium/stripe"
)

// What the chapters count with, written apart from the program.
const (
	rowBytes  = 44
	mostBytes = 400
	epochGens = 1048576 // generations of an epoch
	mostGen   = math.MaxUint64
)

// size is how many rows of data and of parity there are.
type size struct{ k, m int }

func (z size) n() int       { return z.k + z.m }
func (z size) room() int    { return rowBytes * z.k }
func (z size) name() string { return fmt.Sprint("k ", z.k, ", m ", z.m) }

// small are sizes of which each set of drives can be gone through.
func small() []size {
	return []size{{1, 1}, {2, 1}, {1, 2}, {3, 1}, {2, 2}, {1, 3}, {4, 1}, {3, 2}, {2, 3}, {1, 4}}
}

// middle are small sizes, and some of more drives: a value needs from ten stripes down to one.
func middle() []size {
	return append(small(), size{5, 1}, size{8, 2}, size{9, 1}, size{10, 1}, size{16, 3})
}

// some are sizes up to as many drives as there may be.
func some() []size { return append(middle(), size{1, 254}, size{254, 1}, size{127, 128}) }

// count is how many stripes a value needs, taken away one by one.
func (z size) count(long int) int {
	many := 0
	for ; long > 0; long -= z.room() {
		many++
	}
	return many
}

// pieces are the parts of a value that lie in its stripes.
func (z size) pieces(x []byte) [][]byte {
	var l [][]byte
	for len(x) > z.room() {
		l = append(l, x[:z.room()])
		x = x[z.room():]
	}
	if len(x) > 0 {
		l = append(l, x)
	}
	return l
}

// lengths are those of values at the edges of what stripes have room for.
func (z size) lengths() []int {
	l := []int{0, 1, 2, rowBytes - 1, rowBytes, rowBytes + 1, 100, mostBytes - 1, mostBytes}
	for many := 1; many <= 10; many++ {
		l = append(l, many*z.room()-1, many*z.room(), many*z.room()+1)
	}
	l = slices.DeleteFunc(l, func(long int) bool { return long > mostBytes })
	slices.Sort(l)
	return slices.Compact(l)
}

// text answers so many bytes, each unlike those of another seed at its place.
func text(seed, long int) []byte {
	b := make([]byte, long)
	for i := range b {
		b[i] = byte(seed + 31*i + i/256)
	}
	return b
}

// bed is drives, a coder of as many rows, and a pool.
type bed struct {
	size
	a *array.Array
	c *code.Coder
	p *pool.Pool
}

// made answers a bed that there must be, in each of whose sectors something is stored that is no shard.
func made(t *testing.T, z size, sectors int, p *pool.Pool) bed {
	t.Helper()
	b := bed{size: z, a: array.New(z.n(), sectors), c: code.New(field.New(), z.k, z.m), p: p}
	if b.a == nil || b.c == nil || b.p == nil {
		t.Fatalf("no drives, no coder or no pool, of %v and %d sectors", z, sectors)
	}
	for d := range z.n() {
		for at := range sectors {
			b.a.Write(d, at, text(7*d+3*at+1, 64))
		}
	}
	b.a.Flush()
	return b
}

func (b bed) copy() bed { return bed{size: b.size, a: b.a.Copy(), c: b.c, p: b.p.Copy()} }

// gaps answers a pool of 14 places from 2 on, of which 2 and 5 are taken, and 3 and 8 in limbo; ten are free. Generations begin in the epoch 3 with the count 7.
func gaps() *pool.Pool {
	p := pool.New(2, 14)
	for _, place := range []int{2, 3, 5, 8} {
		p.Use(place)
	}
	p.Later([]int{3, 8})
	p.Begin(3)
	p.Gens(7)
	return p
}

// firstGap is the generation that the pool with gaps tells next.
const firstGap = 3*epochGens + 7

// gapPlaces are the places that the pool with gaps gives out, in order.
func gapPlaces() []int { return []int{4, 6, 7, 9, 10, 11, 12, 13, 14, 15} }

// shot is all that drives tell, so that two of them can be held against each other.
type shot struct {
	waits        []int
	dead         []bool
	read, stored [][][]byte
}

func shotOf(a *array.Array) shot {
	var s shot
	for d := range a.N() {
		s.waits = append(s.waits, a.Waits(d))
		s.dead = append(s.dead, a.Dead(d))
		var read, stored [][]byte
		for at := range a.Sectors() {
			r, _ := a.Read(d, at)
			read, stored = append(read, r), append(stored, a.Stored(d, at))
		}
		s.read, s.stored = append(s.read, read), append(s.stored, stored)
	}
	return s
}

// stock is all that a pool tells.
type stock struct {
	taken, free, limbo []int
	epoch, next        uint64
}

func stockOf(p *pool.Pool) stock {
	s := stock{taken: p.Taken(), epoch: p.Epoch()}
	s.next, _ = p.Gens(0)
	c := p.Copy()
	s.free, _ = c.Take(c.Free())
	c.Settle()
	s.limbo, _ = c.Take(c.Free())
	return s
}

// equal tells whether two stocks are the same, a nil list being as an empty one.
func (s stock) equal(o stock) bool {
	return slices.Equal(s.taken, o.taken) && slices.Equal(s.free, o.free) && slices.Equal(s.limbo, o.limbo) && s.epoch == o.epoch && s.next == o.next
}

// unchanged tells what goes wrong where drives and a pool are to be as they were.
func (b bed) unchanged(t *testing.T, name string, drives shot, places stock) {
	t.Helper()
	if is := shotOf(b.a); !reflect.DeepEqual(is, drives) {
		t.Errorf("%s: the drives are otherwise than they were", name)
	}
	if is := stockOf(b.p); !is.equal(places) {
		t.Errorf("%s: the pool is %v, and was %v", name, is, places)
	}
}

// same tells whether two blobs are the same, a nil list being as an empty one.
func same(x, y api.Blob) bool {
	return slices.Equal(x.Places, y.Places) && x.Gen == y.Gen && x.Size == y.Size
}

// zero tells whether a blob is the zero one.
func zero(x api.Blob) bool { return same(x, api.Blob{}) }

// puts puts what must be put.
func (b bed) puts(t *testing.T, name string, x []byte) api.Blob {
	t.Helper()
	y, e := blob.Put(b.a, b.c, b.p, x)
	if e != api.OK {
		t.Fatalf("%s: Put(%d bytes) = %v, %d", name, len(x), y, e)
	}
	return y
}

// gets tells what goes wrong where a value is to be got.
func (b bed) gets(t *testing.T, name string, y api.Blob, want []byte) {
	t.Helper()
	if x, e := blob.Get(b.a, b.c, y); !bytes.Equal(x, want) || e != api.OK {
		t.Errorf("%s: Get(%v) = %v, %d, want %v", name, y, x, e, want)
	}
}

// fails tells what goes wrong where Get is to answer an error, and to change nothing.
func (b bed) fails(t *testing.T, name string, y api.Blob, want api.Errno) {
	t.Helper()
	was := shotOf(b.a)
	if x, e := blob.Get(b.a, b.c, y); len(x) != 0 || e != want {
		t.Errorf("%s: Get(%v) = %v, %d, want nothing, %d", name, y, x, e, want)
	}
	if is := shotOf(b.a); !reflect.DeepEqual(is, was) {
		t.Errorf("%s: Get(%v) changed the drives", name, y)
	}
}

// gotOrLost tells what goes wrong where a value is to be got, or to be lost.
func (b bed) gotOrLost(t *testing.T, name string, y api.Blob, x []byte, got bool) {
	t.Helper()
	if got {
		b.gets(t, name, y, x)
	} else {
		b.fails(t, name, y, api.ErrLost)
	}
}

// ref names the stripe i of a blob, apart from Refs.
func ref(y api.Blob, i int) api.Ref {
	return api.Ref{Kind: 3, Place: y.Places[i], Gen: y.Gen + uint64(i)}
}

// home is the drive on which a shard lies.
func (b bed) home(place, index int) int { return (place + index) % b.n() }

// bits are n bools: number's bits, the lowest first.
func bits(number, n int) []bool {
	l := make([]bool, n)
	for i := range l {
		l[i] = number>>i&1 == 1
	}
	return l
}

// many tells how many are so.
func many(list []bool) int {
	n := 0
	for _, is := range list {
		if is {
			n++
		}
	}
	return n
}

// nobodysCoders are those that New didn't make.
func nobodysCoders() map[string]*code.Coder {
	return map[string]*code.Coder{"no coder": nil, "a coder that nobody made": {}}
}

func TestExamples(t *testing.T) {
	if n := blob.Count(code.New(field.New(), 1, 1), 100); n != 3 {
		t.Errorf("Count of 100 bytes, of k 1 = %d", n)
	}
	b := made(t, size{1, 1}, 16, gaps())
	if y := b.puts(t, "100 bytes", text(1, 100)); len(y.Places) != 3 {
		t.Errorf("Put of 100 bytes, of k 1 = %v", y)
	}
	want := []byte{0x05, 0xac, 0x02, 0x01, 0x07}
	y := api.Blob{Size: 5, Gen: 300, Places: []int{7}}
	if x := blob.PutBytes(nil, y); !bytes.Equal(x, want) {
		t.Errorf("PutBytes(%v) = %x", y, x)
	}
	if x, at, e := blob.GetBytes(want, 0); !same(x, y) || at != 5 || e != api.OK {
		t.Errorf("GetBytes(%x) = %v, %d, %d", want, x, at, e)
	}
}

// P15.1

func TestCount(t *testing.T) {
	f := field.New()
	for k := 1; k <= 254; k++ {
		for _, m := range []int{1, 255 - k} {
			z, c := size{k, m}, code.New(f, k, m)
			long := []int{0, 1, 2, 43, 44, 45, 399, 400, 401, 10000}
			for i := 1; i <= 12; i++ {
				long = append(long, i*z.room()-1, i*z.room(), i*z.room()+1)
			}
			for _, long := range long {
				if n := blob.Count(c, long); n != z.count(long) {
					t.Errorf("%s: Count of %d = %d, want %d", z.name(), long, n, z.count(long))
				}
			}
		}
	}
}

func TestCountOfEachValue(t *testing.T) {
	for _, z := range some() {
		c := code.New(field.New(), z.k, z.m)
		for long := -500; long <= 2*mostBytes; long++ {
			if n := blob.Count(c, long); n != z.count(long) {
				t.Errorf("%s: Count of %d = %d, want %d", z.name(), long, n, z.count(long))
			}
		}
	}
}

func TestCountOfTheGreatest(t *testing.T) {
	for _, z := range some() {
		c := code.New(field.New(), z.k, z.m)
		for _, less := range []int{0, 1, 2, 43, 44, z.room() - 1, z.room(), z.room() + 1, 1 << 32, 1 << 62} {
			// The sum is reckoned without a bound: so much and all but one byte of a stripe, cut to whole stripes.
			long := math.MaxInt - less
			up := new(big.Int).Add(big.NewInt(int64(long)), big.NewInt(int64(z.room()-1)))
			want := int(up.Div(up, big.NewInt(int64(z.room()))).Int64())
			if n := blob.Count(c, long); n != want {
				t.Errorf("%s: Count of %d = %d, want %d", z.name(), long, n, want)
			}
			if n := blob.Count(c, math.MinInt+less); n != 0 {
				t.Errorf("%s: Count of %d = %d, want 0", z.name(), math.MinInt+less, n)
			}
		}
	}
}

func TestCountWithoutACoder(t *testing.T) {
	for name, c := range nobodysCoders() {
		for _, long := range []int{math.MinInt, -1, 0, 1, 44, 400, 401, math.MaxInt} {
			if n := blob.Count(c, long); n != 0 {
				t.Errorf("%s: Count of %d = %d", name, long, n)
			}
		}
	}
}

// places answers so many, none of them below 0.
func places(n int) []int {
	var l []int
	for i := range n {
		l = append(l, (i*7+3)%600)
	}
	return l
}

func TestRight(t *testing.T) {
	for _, z := range some() {
		c := code.New(field.New(), z.k, z.m)
		long := append(z.lengths(), math.MinInt, math.MinInt+400, -401, -400, -2, -1, 401, 402, 440, 441, 1<<32, 1<<32+1, math.MaxInt)
		for _, long := range long {
			for n := range 13 {
				y := api.Blob{Size: long, Gen: 5, Places: places(n)}
				want := long >= 0 && long <= mostBytes && n == z.count(long)
				if got := blob.Right(c, y); got != want {
					t.Errorf("%s: Right of Size %d with %d places = %t", z.name(), long, n, got)
				}
			}
		}
	}
}

// Size 401 isn't right, also where as many stripes have room for it.
func TestRightOfMoreThanMayBe(t *testing.T) {
	for _, z := range []size{{1, 1}, {10, 1}, {254, 1}} {
		c := code.New(field.New(), z.k, z.m)
		for _, long := range []int{401, 402, 440, 441, 11176, 11177} {
			if blob.Right(c, api.Blob{Size: long, Places: places(z.count(long))}) {
				t.Errorf("%s: Right of Size %d", z.name(), long)
			}
		}
	}
}

func TestRightOfPlaces(t *testing.T) {
	for _, z := range some() {
		c := code.New(field.New(), z.k, z.m)
		for _, long := range z.lengths() {
			n := z.count(long)
			for i := range n {
				for _, place := range []int{math.MinInt, math.MinInt + 1, -65536, -600, -2, -1, 0, 1, 599, 600, 65536, math.MaxInt} {
					y := api.Blob{Size: long, Places: places(n)}
					y.Places[i] = place
					if got := blob.Right(c, y); got != (place >= 0) {
						t.Errorf("%s: Right of %v = %t", z.name(), y, got)
					}
				}
			}
		}
	}
}

// Neither the generation nor a place that stands twice counts.
func TestRightWhateverElse(t *testing.T) {
	c := code.New(field.New(), 1, 1)
	for _, gen := range []uint64{0, 1, 1<<60 - 1, 1 << 60, mostGen - 1, mostGen} {
		if !blob.Right(c, api.Blob{Size: 100, Gen: gen, Places: []int{4, 4, 4}}) {
			t.Errorf("a blob of the generation %d isn't right", gen)
		}
		if !blob.Right(c, api.Blob{Gen: gen}) || !blob.Right(c, api.Blob{Gen: gen, Places: []int{}}) {
			t.Errorf("a blob of nothing of the generation %d isn't right", gen)
		}
	}
}

// Without a coder Count is 0, so that no blob with places is right.
func TestRightWithoutACoder(t *testing.T) {
	for name, c := range nobodysCoders() {
		for _, long := range []int{math.MinInt, -1, 0, 1, 44, 400, 401, math.MaxInt} {
			for n := range 4 {
				want := n == 0 && long >= 0 && long <= 400
				if got := blob.Right(c, api.Blob{Size: long, Places: places(n)}); got != want {
					t.Errorf("%s: Right of Size %d with %d places = %t", name, long, n, got)
				}
			}
		}
	}
}

func TestRefs(t *testing.T) {
	for _, n := range []int{0, 1, 2, 3, 10, 400, 401, 5000} {
		for _, gen := range []uint64{0, 1, 255, 1<<32 - 1, 1<<60 - 1, 1 << 63, mostGen - 9, mostGen - 1, mostGen} {
			y := api.Blob{Size: n, Gen: gen, Places: places(n)}
			l := blob.Refs(y)
			if len(l) != n {
				t.Fatalf("%d places: %d stripes", n, len(l))
			}
			next := gen
			for i, got := range l {
				if want := (api.Ref{Kind: 3, Place: y.Places[i], Gen: next}); got != want {
					t.Errorf("%d places of the generation %d: the stripe %d is %v, want %v", n, gen, i, got, want)
				}
				next++ // behind 2 to 64 less 1 comes 0
			}
		}
	}
}

// Whatever a blob is, its places are named, in their order.
func TestRefsOfBlobsThatAreNotRight(t *testing.T) {
	l := []int{9, -1, 9, math.MinInt, 0, 600, math.MaxInt}
	for _, long := range []int{math.MinInt, -1, 0, 401, math.MaxInt} {
		for i, got := range blob.Refs(api.Blob{Size: long, Gen: 2, Places: l}) {
			if want := (api.Ref{Kind: 3, Place: l[i], Gen: uint64(2 + i)}); got != want {
				t.Errorf("Size %d: the stripe %d is %v, want %v", long, i, got, want)
			}
		}
	}
}

// P15.2

// putting tells what goes wrong where a value is put with the pool with gaps: what blob it is, what lies on the drives, and what is left in the pool.
func putting(t *testing.T, b bed, x []byte) {
	t.Helper()
	name := fmt.Sprint(b.name(), ", ", len(x), " bytes")
	n := b.count(len(x))
	want := api.Blob{Size: len(x), Gen: firstGap, Places: gapPlaces()[:n]}
	drives, then := b.a.Copy(), stockOf(b.p)
	y := b.puts(t, name, x)
	if !same(y, want) {
		t.Errorf("%s: Put = %v, want %v", name, y, want)
	}
	if !blob.Right(b.c, y) {
		t.Errorf("%s: %v isn't right", name, y)
	}
	for i, piece := range b.pieces(x) {
		if taken, e := stripe.Put(drives, b.c, ref(want, i), piece); taken != b.n() || e != api.OK {
			t.Fatalf("%s: the stripe %d = %d, %d", name, i, taken, e)
		}
	}
	then.taken = append(then.taken, want.Places...)
	slices.Sort(then.taken)
	then.free = then.free[n:]
	then.next += uint64(n)
	b.unchanged(t, name, shotOf(drives), then)
	for i, piece := range b.pieces(x) {
		if got, e := stripe.Get(b.a, b.c, ref(y, i)); !bytes.Equal(got, piece) || e != api.OK {
			t.Errorf("%s: the stripe %d = %v, %d, want %v", name, i, got, e, piece)
		}
	}
	b.gets(t, name+", waiting", y, x)
	b.a.Flush()
	b.gets(t, name+", flushed", y, x)
	b.unchanged(t, name+", behind Get", shotOf(b.a), then)
}

func TestPutOfEachLength(t *testing.T) {
	for _, z := range some() {
		b := made(t, z, 16, gaps())
		for i, long := range z.lengths() {
			putting(t, b.copy(), text(i, long))
		}
	}
}

// The bytes stand here one by one, so that this test leans on nothing that it tests.
func TestAValueByteByByte(t *testing.T) {
	b := made(t, size{1, 1}, 16, gaps())
	x := text(9, 100)
	y := b.puts(t, "a hundred bytes", x)
	for i, long := range []int{44, 44, 12} {
		place, gen := []byte{4, 6, 7}[i], byte(7+i)
		head := []byte{3, 0, place, 0, gen, 0, 0x30, 0, 0, 0, 0, 0, byte(long), 0, 0, 0}
		for index := range 2 { // of k 1 and m 1 the parity is the data
			head[1] = byte(index)
			want := append(bytes.Clone(head), x[44*i:44*i+long]...)
			want = append(want, make([]byte, 60-len(want))...)
			sum := crc32.Checksum(want, crc32.MakeTable(crc32.Castagnoli))
			want = append(want, byte(sum), byte(sum>>8), byte(sum>>16), byte(sum>>24))
			if got, _ := b.a.Read((int(place)+index)%2, int(place)); !bytes.Equal(got, want) {
				t.Errorf("the stripe %d, index %d = %x, want %x", i, index, got, want)
			}
		}
	}
	if !slices.Equal(y.Places, []int{4, 6, 7}) || y.Gen != 3145735 || y.Size != 100 {
		t.Errorf("a hundred bytes are %v", y)
	}
}

// Each value gets places and generations of its own, and all of them are got.
func TestPutOneBehindTheOther(t *testing.T) {
	for _, z := range some() {
		b := made(t, z, 600, pool.New(200, 400))
		var all []api.Blob
		var values [][]byte
		next, place := uint64(0), 200
		for i, long := range append(z.lengths(), 400, 0, 0, 1, z.room()) {
			x := text(3*i, long)
			if long > mostBytes || place+z.count(long) > 600 {
				continue
			}
			y := b.puts(t, z.name(), x)
			if len(y.Places) != z.count(long) || y.Gen != next || y.Size != long {
				t.Errorf("%s: Put(%d bytes) = %v, from the generation %d on", z.name(), long, y, next)
			}
			for _, got := range y.Places {
				if got != place {
					t.Errorf("%s: Put(%d bytes) = %v, from the place %d on", z.name(), long, y, place)
				}
				place++
			}
			next += uint64(len(y.Places))
			all, values = append(all, y), append(values, x)
			if i%2 == 0 {
				b.a.Flush()
			}
		}
		for i, y := range all {
			b.gets(t, z.name(), y, values[i])
		}
		if got, e := b.p.Gens(0); got != next || e != api.OK || b.p.Free() != 600-place {
			t.Errorf("%s: the pool tells %d next, and has %d free", z.name(), got, b.p.Free())
		}
	}
}

// nothing tells what goes wrong where the blob of no bytes is put.
func nothing(t *testing.T, name string, b bed, gen uint64) {
	t.Helper()
	drives, places := shotOf(b.a), stockOf(b.p)
	for _, x := range [][]byte{nil, {}, make([]byte, 0, 500)} {
		y, e := blob.Put(b.a, b.c, b.p, x)
		if !same(y, api.Blob{Gen: gen}) || e != api.OK {
			t.Errorf("%s: Put of nothing = %v, %d, want the generation %d alone", name, y, e, gen)
		}
		b.gets(t, name, y, nil)
	}
	b.unchanged(t, name, drives, places)
}

// A value of no bytes needs nothing: no place, no generation, no drive that a stripe could be put on.
func TestPutOfNothing(t *testing.T) {
	z := size{2, 1}
	b := made(t, z, 16, gaps())
	nothing(t, "the pool with gaps", b, firstGap)
	b.p.Take(b.p.Free())
	nothing(t, "no place is free", b, firstGap)
	b.p.Gens(epochGens - 7)
	nothing(t, "no generation is left", b, 4*epochGens)
	b.p.Begin(1<<40 - 1)
	nothing(t, "the last epoch", b, (1<<40-1)*epochGens)
	b.p.Gens(epochGens)
	nothing(t, "no generation is left at all", b, 1<<60)
	for n := 1; n <= 5; n++ {
		b.a = array.New(n, 1)
		nothing(t, fmt.Sprint(n, " drives"), b, 1<<60)
	}
	b.a.Fail(0)
	nothing(t, "a dead drive", b, 1<<60)
}

// refused tells what goes wrong where Put is to answer an error, and all is to be as it was.
func (b bed) refused(t *testing.T, name string, x []byte, want api.Errno) {
	t.Helper()
	drives, places := shotOf(b.a), stockOf(b.p)
	if y, e := blob.Put(b.a, b.c, b.p, x); !zero(y) || e != want {
		t.Errorf("%s: Put(%d bytes) = %v, %d, want nothing, %d", name, len(x), y, e, want)
	}
	b.unchanged(t, name, drives, places)
}

func TestPutOfTooMuch(t *testing.T) {
	for _, z := range some() {
		b := made(t, z, 16, gaps())
		for _, long := range []int{401, 402, 440, 441, 65536, 65536 + 100, 1 << 20} {
			b.refused(t, z.name(), make([]byte, long), api.ErrLarge)
		}
		b.p.Take(b.p.Free())
		b.p.Gens(epochGens - 7)
		b.refused(t, z.name()+", nothing free", make([]byte, 401), api.ErrLarge)
		b.a = array.New(z.n()%255+1, 16)
		b.refused(t, z.name()+", another number of drives", make([]byte, 401), api.ErrLarge)
	}
}

// free answers a pool of 30 places from 0 on, of which so many are free, with taken ones and ones in limbo in between.
func free(t *testing.T, n int) *pool.Pool {
	t.Helper()
	p := pool.New(0, 30)
	var limbo []int
	for place := 0; place < 30 && p.Free() > n; place += 2 {
		p.Use(place)
		if place%4 == 0 {
			limbo = append(limbo, place)
		}
	}
	for place := 29; p.Free() > n; place -= 2 {
		p.Use(place)
	}
	p.Later(limbo)
	if p.Free() != n || p.Limbo() == 0 || len(p.Taken()) == 0 {
		t.Fatalf("a pool of %d free, %d taken, %d in limbo", p.Free(), len(p.Taken()), p.Limbo())
	}
	return p
}

func TestPutWithAsManyPlacesAsItNeeds(t *testing.T) {
	for _, z := range middle() {
		b := made(t, z, 30, free(t, 0))
		for _, long := range z.lengths() {
			for n := range z.count(long) {
				now := b.copy()
				now.p = free(t, n)
				now.refused(t, fmt.Sprint(z.name(), ", ", n, " free"), text(1, long), api.ErrSpace)
			}
			now := b.copy()
			now.p = free(t, z.count(long))
			was, x := stockOf(now.p), text(2, long)
			y := now.puts(t, z.name()+", just as many free", x)
			if !slices.Equal(y.Places, was.free) || now.p.Free() != 0 {
				t.Errorf("%s: Put(%d bytes) took %v of %v", z.name(), long, y.Places, was.free)
			}
			now.gets(t, z.name(), y, x)
			if long > 0 {
				now.refused(t, z.name()+", none is free", []byte{1}, api.ErrSpace)
			}
		}
	}
}

// Places in limbo are as those that are taken, until they come back.
func TestPutWithPlacesInLimbo(t *testing.T) {
	b := made(t, size{1, 1}, 4, pool.New(0, 4))
	x := text(1, 132)
	y := b.puts(t, "three of four", x)
	b.refused(t, "one is free", x, api.ErrSpace)
	b.p.Later(y.Places[:2])
	b.refused(t, "two are in limbo", x, api.ErrSpace)
	b.gets(t, "two in limbo", y, x)
	b.p.Settle()
	z := b.puts(t, "two are back", text(2, 132))
	if !slices.Equal(z.Places, []int{0, 1, 3}) || z.Gen != 3 {
		t.Errorf("behind Settle: %v", z)
	}
}

func TestPutWithAsManyGenerationsAsItNeeds(t *testing.T) {
	for _, z := range middle() {
		b := made(t, z, 16, gaps())
		for _, long := range z.lengths() {
			n := z.count(long)
			for left := range n {
				now := b.copy()
				now.p.Gens(epochGens - 7 - left)
				now.refused(t, fmt.Sprint(z.name(), ", ", left, " generations left"), text(1, long), api.ErrSpace)
				if gen, e := now.p.Gens(left); gen != 4*epochGens-uint64(left) || e != api.OK {
					t.Errorf("%s: of %d generations left Gens tells %d, %d", z.name(), left, gen, e)
				}
			}
			now, x := b.copy(), text(2, long)
			now.p.Gens(epochGens - 7 - n)
			y := now.puts(t, z.name()+", just as many left", x)
			if y.Gen != 4*epochGens-uint64(n) {
				t.Errorf("%s: Put(%d bytes), just as many left = %v", z.name(), long, y)
			}
			now.gets(t, z.name(), y, x)
			now.refused(t, z.name()+", none is left", []byte{1}, api.ErrSpace)
			now.p.Begin(9)
			now.p.Give(y.Places)
			if again := now.puts(t, z.name()+", the next epoch", x); again.Gen != 9*epochGens || !slices.Equal(again.Places, y.Places) {
				t.Errorf("%s: in the next epoch %v", z.name(), again)
			}
		}
	}
}

// Both too few places and too few generations: neither are taken.
func TestPutWithTooFewOfBoth(t *testing.T) {
	b := made(t, size{1, 1}, 30, free(t, 2))
	b.p.Gens(epochGens - 2)
	b.refused(t, "too few of both", text(1, 100), api.ErrSpace)
	y := b.puts(t, "just as many of both", text(1, 88))
	b.gets(t, "just as many of both", y, text(1, 88))
}

// comesBack tells what goes wrong where a stripe can't be put: the value's places come back, and no generation that was taken is told again.
func comesBack(t *testing.T, name string, b bed, x []byte) {
	t.Helper()
	for range 3 {
		want := stockOf(b.p)
		want.next += uint64(b.count(len(x)))
		if y, e := blob.Put(b.a, b.c, b.p, x); !zero(y) || e != api.ErrArg {
			t.Errorf("%s: Put(%d bytes) = %v, %d, want nothing, %d", name, len(x), y, e, api.ErrArg)
		}
		if is := stockOf(b.p); !is.equal(want) {
			t.Errorf("%s: behind Put(%d bytes) the pool is %v, want %v", name, len(x), is, want)
		}
	}
}

func TestPutOnOtherDrives(t *testing.T) {
	f := field.New()
	for _, z := range []size{{1, 1}, {2, 1}, {1, 2}, {2, 2}, {9, 1}, {10, 1}, {254, 1}} {
		for _, n := range []int{1, 2, 3, 4, 5, 9, 10, 11, 254, 255} {
			if n == z.n() {
				continue
			}
			b := bed{size: z, a: array.New(n, 16), c: code.New(f, z.k, z.m), p: gaps()}
			was := shotOf(b.a)
			for _, long := range []int{1, 44, 45, 100, 399, 400} {
				comesBack(t, fmt.Sprint(z.name(), ", ", n, " drives"), b, text(1, long))
			}
			if is := shotOf(b.a); !reflect.DeepEqual(is, was) {
				t.Errorf("%s, %d drives: something was written", z.name(), n)
			}
		}
	}
}

// With too few places the error is ErrSpace, also where no stripe could be put.
func TestPutOnOtherDrivesWithTooFewPlaces(t *testing.T) {
	for _, n := range []int{1, 3} {
		b := bed{size: size{1, 1}, a: array.New(n, 30), c: code.New(field.New(), 1, 1), p: free(t, 2)}
		b.refused(t, fmt.Sprint(n, " drives"), text(1, 89), api.ErrSpace)
		comesBack(t, fmt.Sprint(n, " drives"), b, text(1, 88))
	}
}

// The pool has places that the drives haven't: the first stripe, one in between, or the last one can't be put.
func TestPutPastTheLastSector(t *testing.T) {
	for _, z := range middle() {
		for sectors := 1; sectors <= 15; sectors++ {
			b := made(t, z, sectors, gaps())
			for _, long := range z.lengths() {
				now, x := b.copy(), text(sectors, long)
				name := fmt.Sprint(z.name(), ", ", sectors, " sectors")
				l := gapPlaces()[:z.count(long)]
				if long == 0 || l[len(l)-1] < sectors {
					y := now.puts(t, name, x)
					now.gets(t, name, y, x)
					continue
				}
				comesBack(t, name, now, x)
				for place := range sectors {
					if slices.Contains(l, place) {
						continue
					}
					for d := range z.n() {
						got, _ := now.a.Read(d, place)
						was, _ := b.a.Read(d, place)
						if !bytes.Equal(got, was) {
							t.Errorf("%s: the place %d of another one was written", name, place)
						}
					}
				}
			}
		}
	}
}

// What was stored stays got, and the places that came back are given out to the next value.
func TestPutBehindOneThatCouldNotBe(t *testing.T) {
	b := made(t, size{1, 1}, 6, pool.New(0, 10))
	x := text(1, 120)
	y := b.puts(t, "first", x)
	comesBack(t, "past the last sector", b, text(2, 177))
	b.gets(t, "first", y, x)
	z := b.puts(t, "next", text(3, 130))
	if !slices.Equal(z.Places, []int{3, 4, 5}) {
		t.Errorf("the places that came back: %v", z)
	}
	b.gets(t, "first", y, x)
	b.gets(t, "next", z, text(3, 130))
}

// arrays are none, and some of three drives and of others.
func arrays() map[string]*array.Array {
	return map[string]*array.Array{
		"no array": nil, "an array that nobody made": {}, "1 drive": array.New(1, 16), "2 drives": array.New(2, 16),
		"3 drives": array.New(3, 16), "3 drives of few sectors": array.New(3, 4), "4 drives": array.New(4, 16),
	}
}

// coders are none, and those of three rows.
func coders() map[string]*code.Coder {
	l := nobodysCoders()
	l["2 and 1"], l["1 and 2"] = code.New(field.New(), 2, 1), code.New(field.New(), 1, 2)
	return l
}

// pools are none, one that has what is needed, and those that haven't.
func pools() map[string]*pool.Pool {
	full, told := gaps(), gaps()
	full.Take(full.Free())
	told.Gens(epochGens - 7)
	return map[string]*pool.Pool{"no pool": nil, "a pool that nobody made": {}, "a pool": gaps(), "a full pool": full, "a told pool": told}
}

// Each error of Put alone, and all of them with all others: the plain order of the chapter tells which one it is.
func TestErrorsOfPut(t *testing.T) {
	for an, a := range arrays() {
		for cn, c := range coders() {
			for pn, p := range pools() {
				for _, long := range []int{0, 1, 44, 400, 401, 65536} {
					want := api.OK
					switch {
					case a.N() == 0 || c.N() == 0 || pn == "no pool" || pn == "a pool that nobody made":
						want = api.ErrNil
					case long > 400:
						want = api.ErrLarge
					case long > 0 && pn != "a pool":
						want = api.ErrSpace
					case long > 0 && (a.N() != 3 || a.Sectors() == 4): // 4 is the first place of the pool
						want = api.ErrArg
					}
					// Copy of a pool that nobody made is nil.
					with := p
					if p.Free()+p.Limbo() > 0 {
						with = p.Copy()
					}
					y, e := blob.Put(a, c, with, make([]byte, long))
					if e != want || e != api.OK && !zero(y) {
						t.Errorf("%s, %s, %s: Put(%d bytes) = %v, %d, want %d", an, cn, pn, long, y, e, want)
					}
				}
			}
		}
	}
}

// Each error of Get alone, and all of them with all others.
func TestErrorsOfGet(t *testing.T) {
	blobs := map[string]api.Blob{
		"of nothing": {}, "below 0": {Size: -1}, "too long": {Size: 401, Places: places(10)}, "without places": {Size: 1}, "with too many": {Places: []int{3}},
		"of a place below 0": {Size: 1, Places: []int{-1}}, "of no sector": {Size: 1, Places: []int{16}}, "that is lost": {Size: 1, Places: []int{3}},
	}
	for an, a := range arrays() {
		for cn, c := range coders() {
			for name, y := range blobs {
				want := api.ErrArg
				switch {
				case a.N() == 0 || c.N() == 0:
					want = api.ErrNil
				case name == "of nothing":
					want = api.OK
				case name == "that is lost" && a.N() == 3:
					want = api.ErrLost
				}
				if x, e := blob.Get(a, c, y); e != want || len(x) != 0 {
					t.Errorf("%s, %s: Get of a blob %s = %v, %d, want nothing, %d", an, cn, name, x, e, want)
				}
			}
		}
	}
}

// Get

// changed answers a blob with a change, in memory of its own.
func changed(y api.Blob, change func(y *api.Blob)) api.Blob {
	y.Places = slices.Clone(y.Places)
	change(&y)
	return y
}

// A blob of something else than was put is refused, whatever lies on the drives.
func TestGetOfBlobsThatAreNotRight(t *testing.T) {
	for _, z := range middle() {
		b := made(t, z, 16, gaps())
		for _, long := range z.lengths() {
			now, x := b.copy(), text(5, long)
			y := now.puts(t, z.name(), x)
			for _, other := range []int{math.MinInt, -1 - long, -1, 401, 440, 1<<32 + long, math.MaxInt} {
				now.fails(t, z.name(), changed(y, func(y *api.Blob) { y.Size = other }), api.ErrArg)
			}
			for _, other := range z.lengths() {
				if z.count(other) != z.count(long) {
					now.fails(t, z.name(), changed(y, func(y *api.Blob) { y.Size = other }), api.ErrArg)
				}
			}
			now.fails(t, z.name(), changed(y, func(y *api.Blob) { y.Places = append(y.Places, 1) }), api.ErrArg)
			for i := range y.Places {
				now.fails(t, z.name(), changed(y, func(y *api.Blob) { y.Places = slices.Delete(y.Places, i, i+1) }), api.ErrArg)
				for _, place := range []int{-1, -y.Places[i] - 1, y.Places[i] - 65536, math.MinInt, math.MinInt + y.Places[i]} {
					now.fails(t, z.name(), changed(y, func(y *api.Blob) { y.Places[i] = place }), api.ErrArg)
				}
			}
			now.gets(t, z.name(), y, x)
		}
	}
}

// A place that no sector has is refused, whichever stripe has it, and whichever others are lost.
func TestGetPastTheLastSector(t *testing.T) {
	for _, z := range small() {
		b := made(t, z, 16, gaps())
		for _, long := range z.lengths() {
			now, x := b.copy(), text(5, long)
			y := now.puts(t, z.name(), x)
			for i := range y.Places {
				for _, place := range []int{16, 600, 65536 + y.Places[i], math.MaxInt} {
					wrong := changed(y, func(y *api.Blob) { y.Places[i] = place })
					now.fails(t, z.name(), wrong, api.ErrArg)
					for lost := range y.Places {
						if lost != i {
							now.fails(t, z.name(), changed(wrong, func(y *api.Blob) { y.Places[lost] = 1 }), api.ErrArg)
						}
					}
					now.fails(t, z.name(), changed(wrong, func(y *api.Blob) { y.Gen += 100 }), api.ErrArg)
				}
			}
			now.gets(t, z.name(), y, x)
		}
	}
}

func TestGetOnOtherDrives(t *testing.T) {
	f := field.New()
	for _, z := range []size{{1, 1}, {2, 1}, {1, 2}, {2, 2}, {10, 1}} {
		b := made(t, z, 16, gaps())
		x := text(5, 170)
		y := b.puts(t, z.name(), x)
		for _, n := range []int{1, 2, 3, 4, 5, 10, 11, 12, 255} {
			if n == z.n() {
				continue
			}
			other := bed{size: z, a: array.New(n, 16), c: b.c, p: b.p}
			other.fails(t, fmt.Sprint(z.name(), ", ", n, " drives"), y, api.ErrArg)
			other.gets(t, fmt.Sprint(z.name(), ", ", n, " drives"), api.Blob{Gen: 8}, nil)
			if n > 1 {
				other = bed{size: z, a: b.a, c: code.New(f, z.k, n-z.k), p: b.p}
				if other.c != nil {
					other.fails(t, fmt.Sprint(z.name(), ", a coder of ", n), y, api.ErrArg)
				}
			}
		}
		b.gets(t, z.name(), y, x)
	}
}

// A blob of nothing is got of any drives, also of dead ones.
func TestGetOfNothing(t *testing.T) {
	b := made(t, size{2, 1}, 4, gaps())
	for range 4 {
		for _, y := range []api.Blob{{}, {Gen: 1}, {Gen: mostGen, Places: []int{}}} {
			b.gets(t, "nothing", y, nil)
		}
		b.a.Fail(b.a.Alive() - 1)
	}
}

// Errors come ahead of ErrLost, and without an array or a coder ErrNil ahead of these.
func TestGetWithoutAnArrayOrACoder(t *testing.T) {
	b := made(t, size{2, 1}, 16, gaps())
	x := text(1, 300)
	y := b.puts(t, "a value", x)
	blobs := []api.Blob{y, {}, {Size: -1}, {Size: 401, Places: y.Places}, changed(y, func(y *api.Blob) { y.Places[0] = -1 }), changed(y, func(y *api.Blob) { y.Places[1] = 600 })}
	for _, y := range blobs {
		for name, c := range nobodysCoders() {
			bed{a: b.a, c: c}.fails(t, name, y, api.ErrNil)
			bed{c: c}.fails(t, name+", no array", y, api.ErrNil)
		}
		bed{c: b.c}.fails(t, "no array", y, api.ErrNil)
		bed{a: new(array.Array), c: b.c}.fails(t, "an array that nobody made", y, api.ErrNil)
	}
	b.gets(t, "a value", y, x)
}

// Faults

// laid answers a bed with a value that was flushed, and other values ahead of it and behind it.
func laid(t *testing.T, z size, x []byte) (bed, api.Blob) {
	t.Helper()
	b := made(t, z, 36, pool.New(1, 35))
	b.puts(t, z.name(), text(100, 50))
	y := b.puts(t, z.name(), x)
	b.puts(t, z.name(), text(101, 400))
	b.a.Flush()
	return b, y
}

// values are lengths of one stripe, of several, and of as many as there can be.
func (z size) values() []int {
	l := []int{1, min(z.room(), mostBytes), min(2*z.room()+1, mostBytes), mostBytes}
	return slices.Compact(l)
}

// Each set of drives dead, then with new ones in their places.
func TestGetBehindFail(t *testing.T) {
	for _, z := range small() {
		for _, long := range z.values() {
			x := text(7, long)
			b, y := laid(t, z, x)
			for set := range 1 << z.n() {
				now, gone := b.copy(), bits(set, z.n())
				name := fmt.Sprint(z.name(), ", ", long, " bytes, dead ", gone)
				for d, is := range gone {
					if is {
						now.a.Fail(d)
					}
				}
				now.gotOrLost(t, name, y, x, many(gone) <= z.m)
				for d, is := range gone {
					if is {
						now.a.Replace(d)
					}
				}
				now.gotOrLost(t, name+", and new ones", y, x, many(gone) <= z.m)
				if many(gone) > z.m {
					continue
				}
				for i := range y.Places {
					stripe.Mend(now.a, now.c, ref(y, i))
				}
				for d := range gone {
					if d < z.m {
						now.a.Fail(d)
					}
				}
				now.gets(t, name+", mended, and others dead", y, x)
			}
		}
	}
}

// Of many drives any m may die, and one more may not.
func TestGetBehindManyFail(t *testing.T) {
	for _, z := range []size{{1, 254}, {254, 1}, {127, 128}, {16, 3}, {9, 2}} {
		x := text(7, 400)
		b, y := laid(t, z, x)
		for first := range 5 {
			now := b.copy()
			for i := range z.m {
				now.a.Fail((first*50 + i) % z.n())
			}
			now.gets(t, fmt.Sprint(z.name(), ", m dead"), y, x)
			now.a.Fail((first*50 + z.m) % z.n())
			now.fails(t, fmt.Sprint(z.name(), ", m + 1 dead"), y, api.ErrLost)
		}
	}
}

// rot has a shard of a stripe rot.
func (b bed) rot(y api.Blob, i, index int) {
	place := y.Places[i]
	b.a.Rot(b.home(place, index), place, (place*7+index*11)%61, 0x80000001)
}

// Each set of each stripe's shards rots: it is lost, if one stripe alone lost too many.
func TestGetBehindRot(t *testing.T) {
	for _, z := range small() {
		for _, long := range z.values() {
			x := text(7, long)
			b, y := laid(t, z, x)
			for i := range y.Places {
				for set := range 1 << z.n() {
					now, gone := b.copy(), bits(set, z.n())
					for index, is := range gone {
						if is {
							now.rot(y, i, index)
						}
					}
					name := fmt.Sprint(z.name(), ", ", long, " bytes, stripe ", i, ", rotten ", gone)
					now.gotOrLost(t, name, y, x, many(gone) <= z.m)
				}
			}
		}
	}
}

// Each stripe loses as many shards as may be, of other drives each; then one of them loses one more.
func TestGetWithEachStripeAtItsWorst(t *testing.T) {
	for _, z := range middle() {
		for _, long := range z.values() {
			x := text(7, long)
			b, y := laid(t, z, x)
			for i := range y.Places {
				for lost := range z.m {
					b.rot(y, i, (i*3+lost)%z.n())
				}
			}
			name := fmt.Sprint(z.name(), ", ", long, " bytes")
			b.gets(t, name, y, x)
			for i := range y.Places {
				now := b.copy()
				now.rot(y, i, (i*3+z.m)%z.n())
				now.fails(t, fmt.Sprint(name, ", stripe ", i), y, api.ErrLost)
			}
		}
	}
}

// Each set of two stripes' writes that wait is kept in a crash: the value is there, if of each stripe k are.
func TestGetBehindACrash(t *testing.T) {
	for _, z := range []size{{1, 1}, {2, 1}, {1, 2}, {2, 2}, {1, 3}} {
		x := text(7, min(z.room()+5, 400))
		b := made(t, z, 16, gaps())
		y := b.puts(t, z.name(), x)
		for set := range 1 << (2 * z.n()) {
			now, kept := b.copy(), bits(set, 2*z.n())
			lists := make([][]bool, z.n())
			for d := range lists {
				lists[d] = kept[2*d : 2*d+2]
			}
			now.a.Crash(lists)
			there := [2]int{}
			for d := range lists {
				for i, is := range lists[d] {
					if is {
						there[i]++
					}
				}
			}
			now.gotOrLost(t, fmt.Sprint(z.name(), ", kept ", kept), y, x, there[0] >= z.k && there[1] >= z.k)
		}
	}
}

// What was flushed is there behind a crash; a value that was put since is got just if enough of it was kept.
func TestGetBehindFlushAndCrash(t *testing.T) {
	for _, z := range small() {
		x := text(7, 400)
		b, y := laid(t, z, x)
		other := b.puts(t, z.name(), text(8, 60))
		for _, keep := range []bool{false, true} {
			now := b.copy()
			lists := make([][]bool, z.n())
			for d := range lists {
				lists[d] = slices.Repeat([]bool{keep}, 20)
			}
			now.a.Crash(lists)
			now.gets(t, z.name(), y, x)
			now.gotOrLost(t, z.name(), other, text(8, 60), keep)
		}
	}
}

// One of several stripes is lost, whichever, and so is the value.
func TestGetWithOneStripeLost(t *testing.T) {
	for _, z := range small() {
		x := text(7, 400)
		b, y := laid(t, z, x)
		for i := range y.Places {
			for name, other := range map[string]api.Ref{
				"another generation": {Kind: 3, Place: y.Places[i], Gen: y.Gen + uint64(i) + 1},
				"the one ahead":      {Kind: 3, Place: y.Places[i], Gen: y.Gen + uint64(i) - 1},
				"another kind":       {Kind: 4, Place: y.Places[i], Gen: y.Gen + uint64(i)},
			} {
				now := b.copy()
				stripe.Put(now.a, now.c, other, z.pieces(x)[i])
				now.fails(t, fmt.Sprint(z.name(), ", stripe ", i, ", ", name), y, api.ErrLost)
			}
		}
		for _, more := range []uint64{1, 2, 1 << 20, 1 << 63, mostGen} {
			b.fails(t, z.name()+", another generation", changed(y, func(y *api.Blob) { y.Gen += more }), api.ErrLost)
		}
		if len(y.Places) > 1 {
			b.fails(t, z.name()+", the other way round", changed(y, func(y *api.Blob) { slices.Reverse(y.Places) }), api.ErrLost)
			b.fails(t, z.name()+", one place twice", changed(y, func(y *api.Blob) { y.Places[1] = y.Places[0] }), api.ErrLost)
		}
	}
}

// A place that came back is another value's: the first one is lost, and the other one is got.
func TestGetBehindAnotherPut(t *testing.T) {
	for _, z := range small() {
		for i := range z.count(400) {
			x := text(7, 400)
			b, y := laid(t, z, x)
			b.p.Give(y.Places[i : i+1])
			b.gets(t, z.name()+", a place came back", y, x)
			other := b.puts(t, z.name(), text(9, 3))
			if !slices.Equal(other.Places, y.Places[i:i+1]) {
				t.Fatalf("%s: the place is %v, of %v", z.name(), other, y)
			}
			b.fails(t, fmt.Sprint(z.name(), ", stripe ", i), y, api.ErrLost)
			b.gets(t, z.name(), other, text(9, 3))
		}
	}
}

// A stripe whose text isn't as long as it should be: the value is lost.
func TestGetOfStripesOfOtherLengths(t *testing.T) {
	for _, z := range middle() {
		for _, long := range z.values() {
			x := text(7, long)
			b, y := laid(t, z, x)
			for i, piece := range z.pieces(x) {
				for _, other := range []int{0, 1, len(piece) - 1, len(piece), len(piece) + 1, z.room() - 1, z.room()} {
					if other > z.room() {
						continue
					}
					now := b.copy()
					stripe.Put(now.a, now.c, ref(y, i), append(bytes.Clone(piece), make([]byte, z.room())...)[:other])
					name := fmt.Sprint(z.name(), ", ", long, " bytes, stripe ", i, " of ", other)
					now.gotOrLost(t, name, y, x, other == len(piece))
				}
			}
		}
	}
}

// A Size that needs as many stripes, but isn't the value's.
func TestGetOfAnotherSize(t *testing.T) {
	for _, z := range middle() {
		for _, long := range z.values() {
			x := text(7, long)
			b, y := laid(t, z, x)
			for _, other := range append(z.lengths(), max(long-1, 0), min(long+1, mostBytes)) {
				want := api.ErrLost
				if z.count(other) != z.count(long) {
					want = api.ErrArg
				}
				if other != long {
					b.fails(t, fmt.Sprint(z.name(), ", ", long, " bytes as ", other), changed(y, func(y *api.Blob) { y.Size = other }), want)
				}
			}
			b.gets(t, z.name(), y, x)
		}
	}
}

// A blob that nobody put, but whose stripes lie there, is got; also where generations go past 2 to 64.
func TestGetOfStripesThatLieThere(t *testing.T) {
	for _, z := range middle() {
		for _, gen := range []uint64{0, 5, 1<<60 - 1, mostGen - 1, mostGen} {
			b := made(t, z, 16, gaps())
			x := text(7, 400)
			y := api.Blob{Size: 400, Gen: gen, Places: []int{15, 0, 3, 2, 9, 14, 1, 7, 8, 5}[:z.count(400)]}
			for i, piece := range z.pieces(x) {
				stripe.Put(b.a, b.c, ref(y, i), piece)
			}
			b.gets(t, fmt.Sprint(z.name(), ", from ", gen, " on"), y, x)
		}
	}
}

// P15.3

// number is a number in groups of seven bits.
func number(n uint64) []byte {
	var b []byte
	for ; n > 127; n /= 128 {
		b = append(b, byte(n%128)+128)
	}
	return append(b, byte(n))
}

// plain is a blob as bytes, one number behind the other.
func plain(y api.Blob) []byte {
	b := number(uint64(y.Size))
	b = append(b, number(y.Gen)...)
	b = append(b, number(uint64(len(y.Places)))...)
	for _, place := range y.Places {
		b = append(b, number(uint64(place))...)
	}
	return b
}

// edges are numbers where one byte more is taken, up to the greatest.
func edges(most uint64) []uint64 {
	l := []uint64{0, 1, 5, 300, 399, 400, 401, 598, 599, 600, most - 1, most}
	for bit := 7; bit < 64; bit += 7 {
		l = append(l, 1<<bit-1, 1<<bit, 1<<bit+1)
	}
	l = slices.DeleteFunc(l, func(n uint64) bool { return n > most })
	slices.Sort(l)
	return slices.Compact(l)
}

// blobs are those at the edges of each number, as far as they may be.
func blobs(size, place uint64, most int) []api.Blob {
	var l []api.Blob
	for _, n := range edges(size) {
		l = append(l, api.Blob{Size: int(n), Gen: 300, Places: []int{7}})
	}
	for _, gen := range edges(mostGen) {
		l = append(l, api.Blob{Size: 5, Gen: gen, Places: []int{7}}, api.Blob{Gen: gen})
	}
	for _, n := range edges(place) {
		at := int(n)
		l = append(l, api.Blob{Size: 5, Places: []int{at}}, api.Blob{Places: []int{at, 0, at}}, api.Blob{Places: []int{7, 8, at}})
	}
	for _, n := range []int{0, 1, 2, 10, 126, 127, 128, 129, 399, 400, most} {
		l = append(l, api.Blob{Size: 400, Gen: 1 << 40, Places: places(n)})
	}
	return l
}

// outs are what stands ahead, each with room behind it that is somebody else's.
func outs() [][]byte {
	return [][]byte{nil, {}, {0}, {128, 1}, text(3, 300), make([]byte, 0, 600), text(4, 3000)[:9]}
}

func TestPutBytes(t *testing.T) {
	for _, y := range blobs(math.MaxInt, math.MaxInt, 5000) {
		for _, out := range outs() {
			was, room := bytes.Clone(out), bytes.Clone(out[:cap(out)])
			got := blob.PutBytes(out, y)
			if want := append(bytes.Clone(was), plain(y)...); !bytes.Equal(got, want) {
				t.Errorf("PutBytes(%d bytes, %v) = %x, want %x", len(out), y, got, want)
			}
			if !bytes.Equal(out[:cap(out)], room) {
				t.Errorf("PutBytes(%d bytes, %v) changed them, or what stands behind them", len(out), y)
			}
			clear(got[:cap(got)])
			if !bytes.Equal(out[:cap(out)], room) {
				t.Errorf("PutBytes(%d bytes, %v) answered what was handed in", len(out), y)
			}
		}
	}
}

// Of a blob with Size or a place below 0: what was handed in, alone, in new memory.
func TestPutBytesOfNumbersBelowNought(t *testing.T) {
	var l []api.Blob
	for _, n := range []int{math.MinInt, math.MinInt + 1, -1 << 32, -600, -128, -2, -1} {
		l = append(l, api.Blob{Size: n}, api.Blob{Size: n, Gen: 5, Places: []int{1, 2}}, api.Blob{Size: n, Places: []int{n}})
		for i := range 3 {
			y := api.Blob{Size: 100, Gen: 5, Places: []int{0, 1, 2}}
			y.Places[i] = n
			l = append(l, y)
		}
		l = append(l, api.Blob{Size: 400, Places: append(places(399), n)})
	}
	for _, y := range l {
		for _, out := range outs() {
			room := bytes.Clone(out[:cap(out)])
			got := blob.PutBytes(out, y)
			if !bytes.Equal(got, out) {
				t.Errorf("PutBytes(%d bytes, %v) = %x", len(out), y, got)
			}
			clear(got[:cap(got)])
			if !bytes.Equal(out[:cap(out)], room) {
				t.Errorf("PutBytes(%d bytes, %v) changed them, or answered them", len(out), y)
			}
		}
	}
}

// reads tells what goes wrong where a text from a place on is a blob, or a fault.
func reads(t *testing.T, b []byte, at int, want api.Blob, end int, wrong api.Errno) {
	t.Helper()
	was := bytes.Clone(b)
	if y, behind, e := blob.GetBytes(b, at); !same(y, want) || behind != end || e != wrong {
		t.Errorf("GetBytes(%x, %d) = %v, %d, %d, want %v, %d, %d", b, at, y, behind, e, want, end, wrong)
	}
	if !bytes.Equal(b, was) {
		t.Errorf("GetBytes(%x, %d) changed it", was, at)
	}
}

func TestGetBytes(t *testing.T) {
	for _, y := range blobs(400, 599, 400) {
		b := plain(y)
		for _, ahead := range [][]byte{nil, {0}, {128}, text(3, 200)} {
			for _, behind := range [][]byte{nil, {0}, {128}, {255, 255}, text(9, 40)} {
				all := append(append(bytes.Clone(ahead), b...), behind...)
				reads(t, all, len(ahead), y, len(ahead)+len(b), api.OK)
			}
		}
	}
}

// What is put is got, and what is got and put again are the bytes that were read.
func TestBytesThereAndBack(t *testing.T) {
	for _, y := range blobs(400, 599, 400) {
		b := blob.PutBytes(nil, y)
		got, at, e := blob.GetBytes(b, 0)
		if !same(got, y) || at != len(b) || e != api.OK || !bytes.Equal(blob.PutBytes(nil, got), b) {
			t.Errorf("%v is put as %x, and got as %v, %d, %d", y, b, got, at, e)
		}
		more := blob.PutBytes(b, api.Blob{Size: 1, Places: []int{2}})
		reads(t, more, len(b), api.Blob{Size: 1, Places: []int{2}}, len(more), api.OK)
	}
}

// Cut off behind each byte it is too short, from whatever place it is read.
func TestGetBytesCutOff(t *testing.T) {
	for _, y := range blobs(400, 599, 400) {
		b := plain(y)
		for long := range b {
			reads(t, b[:long], 0, api.Blob{}, 0, api.ErrShort)
			if long < 20 {
				reads(t, append(text(9, 7), b[:long]...), 7, api.Blob{}, 0, api.ErrShort)
			}
		}
	}
}

func TestGetBytesOfPlaces(t *testing.T) {
	b := append([]byte{9, 9}, plain(api.Blob{Size: 5, Gen: 300, Places: []int{7, 200}})...)
	for _, text := range [][]byte{nil, {}, {0, 0, 0}, b} {
		for _, at := range []int{math.MinInt, math.MinInt + 2, -600, -2, -1, len(text) + 1, len(text) + 2, len(text) + 600, 1<<32 + 2, math.MaxInt - 1, math.MaxInt} {
			reads(t, text, at, api.Blob{}, 0, api.ErrArg)
		}
		reads(t, text, len(text), api.Blob{}, 0, api.ErrShort)
	}
	reads(t, b, 2, api.Blob{Size: 5, Gen: 300, Places: []int{7, 200}}, len(b), api.OK)
	// What stands behind a text's end is nobody's, as long as there is room for it.
	reads(t, b[:len(b)-1], 2, api.Blob{}, 0, api.ErrShort)
}

// part is a number of a text, and what is wrong with it.
type part struct {
	bytes []byte
	wrong api.Errno
}

// forms are numbers that aren't in their shortest form, or are too long.
func forms() []part {
	long := func(n int, last ...byte) []byte { return append(slices.Repeat([]byte{255}, n), last...) }
	return []part{
		{[]byte{0x80, 0}, api.ErrForm}, {[]byte{0x85, 0}, api.ErrForm}, {[]byte{0x80, 0x80, 0}, api.ErrForm},
		{long(9, 2), api.ErrForm}, {long(9, 127), api.ErrForm}, {long(9, 128), api.ErrForm}, {long(10, 1), api.ErrForm}, {long(9, 0), api.ErrForm}, {long(20, 1), api.ErrForm},
	}
}

// above are numbers that are greater than they may be.
func above(most uint64) []part {
	var l []part
	for _, n := range append(edges(mostGen), 1<<32, 1<<32+5, 1<<63+5, 1<<16+5) {
		if n > most {
			l = append(l, part{number(n), api.ErrForm})
		}
	}
	return l
}

// wrongs are all that may be wrong with each number of a blob of two places: Size, Gen, how many, and each of these.
func wrongs() [5][]part {
	return [5][]part{
		append(forms(), above(400)...), forms(), append(forms(), above(400)...), append(forms(), above(599)...), append(forms(), above(599)...),
	}
}

// numbers are a right blob's, one by one.
func numbers() [5]part {
	return [5]part{{bytes: number(399)}, {bytes: number(300)}, {bytes: number(2)}, {bytes: number(599)}, {bytes: number(8)}}
}

// joined are all parts, one behind the other.
func joined(parts [5]part) []byte {
	var b []byte
	for _, p := range parts {
		b = append(b, p.bytes...)
	}
	return b
}

func TestGetBytesOfEachFault(t *testing.T) {
	for at, l := range wrongs() {
		for _, one := range l {
			parts := numbers()
			parts[at] = one
			reads(t, joined(parts), 0, api.Blob{}, 0, one.wrong)
			reads(t, append([]byte{1, 2}, joined(parts)...), 2, api.Blob{}, 0, one.wrong)
			// Cut off right behind it, the text is too short, too: what is met first is told.
			b := []byte{}
			for _, p := range parts[:at+1] {
				b = append(b, p.bytes...)
			}
			reads(t, b, 0, api.Blob{}, 0, one.wrong)
		}
	}
}

// Two faults in one text: the first that is met, number by number.
func TestGetBytesOfTwoFaults(t *testing.T) {
	all := wrongs()
	for first := range all {
		for second := first; second < len(all); second++ {
			for _, one := range all[first] {
				for _, two := range all[second] {
					parts := numbers()
					parts[second] = two
					parts[first] = one
					reads(t, joined(parts), 0, api.Blob{}, 0, api.ErrForm)
				}
				// A cut behind a fault changes nothing, one ahead of it does.
				parts := numbers()
				parts[first] = one
				b := joined(parts)
				ahead := 0
				for _, p := range parts[:first] {
					ahead += len(p.bytes)
				}
				for long := range len(b) {
					want := api.ErrForm
					if !seen(one.bytes, long-ahead) {
						want = api.ErrShort
					}
					reads(t, b[:long], 0, api.Blob{}, 0, want)
				}
			}
		}
	}
}

// seen tells whether a fault is met in so many bytes of a number: where it is too great, when it is there whole; where its form is wrong, at the byte that is.
func seen(b []byte, long int) bool {
	for i := range min(long, len(b)) {
		if i == 9 && b[i] > 1 || i > 0 && b[i] == 0 {
			return true
		}
	}
	return long >= len(b)
}

func TestGetBytesOfSizes(t *testing.T) {
	for n := range uint64(1000) {
		b := append(number(n), 0, 0)
		if n <= 400 {
			reads(t, b, 0, api.Blob{Size: int(n)}, len(b), api.OK)
		} else {
			reads(t, b, 0, api.Blob{}, 0, api.ErrForm)
		}
		b = append([]byte{1, 2, 3, 0, 1}, number(n)...)
		if n <= 599 {
			reads(t, b, 0, api.Blob{Size: 1, Gen: 2, Places: []int{0, 1, int(n)}}, len(b), api.OK)
		} else {
			reads(t, b, 0, api.Blob{}, 0, api.ErrForm)
		}
		b = append([]byte{1, 2}, number(n)...)
		behind := len(b) + int(n)
		b = append(b, make([]byte, 1000)...)
		if n <= 400 {
			reads(t, b, 0, api.Blob{Size: 1, Gen: 2, Places: make([]int, n)}, behind, api.OK)
		} else {
			reads(t, b, 0, api.Blob{}, 0, api.ErrForm)
		}
	}
}

// Whether a blob is right isn't asked: there is no coder that could tell.
func TestGetBytesOfBlobsThatAreNotRight(t *testing.T) {
	for _, y := range []api.Blob{{Size: 400}, {Places: places(400)}, {Size: 1, Places: []int{1, 1, 1}}} {
		b := plain(y)
		reads(t, b, 0, y, len(b), api.OK)
	}
}

// Each text of few bytes, against a reader that is written apart from the program.
func TestGetBytesOfEachShortText(t *testing.T) {
	some := []byte{0, 1, 2, 3, 4, 5, 0x7f, 0x80, 0x81, 0x90, 0x91, 0xd7, 0xd8, 0xff}
	b := make([]byte, 5)
	ways := 1
	for range b {
		ways *= len(some)
	}
	for way := range ways {
		for i := range b {
			b[i] = some[way%len(some)]
			way /= len(some)
		}
		y, at, e := plainGet(b)
		reads(t, b, 0, y, at, e)
	}
}

// plainGet reads a blob from the beginning of a text of less than ten bytes.
func plainGet(b []byte) (api.Blob, int, api.Errno) {
	var list []uint64
	at := 0
	for len(list) < 3 || uint64(len(list)) < 3+list[2] {
		n, shift, from := uint64(0), 0, at
		for {
			if at == len(b) {
				return api.Blob{}, 0, api.ErrShort
			}
			x := b[at]
			if x == 0 && at > from {
				return api.Blob{}, 0, api.ErrForm
			}
			n += uint64(x&127) << shift
			shift += 7
			at++
			if x < 128 {
				break
			}
		}
		most := uint64(599)
		switch len(list) {
		case 0, 2:
			most = 400
		case 1:
			most = mostGen
		}
		if n > most {
			return api.Blob{}, 0, api.ErrForm
		}
		list = append(list, n)
	}
	y := api.Blob{Size: int(list[0]), Gen: list[1]}
	for _, n := range list[3:] {
		y.Places = append(y.Places, int(n))
	}
	return y, at, api.OK
}

// P15.4

// What was put is got, with its places there and back as bytes, if each stripe lost at most m shards: each set of them, of each stripe another one.
func TestWhatWasPutIsGot(t *testing.T) {
	for _, z := range small() {
		for _, long := range z.lengths() {
			x := text(long, long)
			b, y := laid(t, z, x)
			told := blob.PutBytes([]byte{9}, y)
			read, at, e := blob.GetBytes(told, 1)
			if !same(read, y) || at != len(told) || e != api.OK {
				t.Errorf("%s: %v as bytes is %v, %d, %d", z.name(), y, read, at, e)
			}
			for set := range 1 << z.n() {
				now, within := b.copy(), true
				for i := range y.Places {
					gone := bits((set+i*5)%(1<<z.n()), z.n())
					within = within && many(gone) <= z.m
					for index, is := range gone {
						if is {
							now.rot(y, i, index)
						}
					}
				}
				now.gotOrLost(t, fmt.Sprint(z.name(), ", ", long, " bytes, set ", set), read, x, within)
			}
		}
	}
}

// What takes places takes just as many as it needs, put and given back in turn.
func TestTakesAsManyAsItNeeds(t *testing.T) {
	for _, z := range small() {
		b := made(t, z, 40, pool.New(0, 40))
		kept := map[int]api.Blob{}
		held, told := 0, 0
		for step := range 200 {
			long := step * 37 % 401
			before := b.p.Free()
			y, e := blob.Put(b.a, b.c, b.p, text(step, long))
			if z.count(long) > before {
				if e != api.ErrSpace || !zero(y) || b.p.Free() != before {
					t.Fatalf("%s, step %d: Put(%d bytes) = %v, %d, of %d free", z.name(), step, long, y, e, before)
				}
			} else {
				kept[step] = y
				held += z.count(long)
				told += z.count(long)
			}
			if old, is := kept[step-7]; is && step%3 > 0 {
				b.p.Give(old.Places)
				held -= len(old.Places)
				delete(kept, step-7)
			}
			if gen, _ := b.p.Gens(0); b.p.Free() != 40-held || gen != uint64(told) {
				t.Fatalf("%s, step %d: %d are free, and %d is told next, with %d held, and %d told", z.name(), step, b.p.Free(), gen, held, told)
			}
		}
		for step, y := range kept {
			b.gets(t, fmt.Sprint(z.name(), ", step ", step), y, text(step, step*37%401))
		}
	}
}

// Rules

// R3: what is handed in isn't changed, and may be changed behind the call; so may what is answered.
func TestMemoryOfPutAndGet(t *testing.T) {
	for _, z := range small() {
		for _, long := range z.values() {
			name := fmt.Sprint(z.name(), ", ", long, " bytes")
			b, x := made(t, z, 16, gaps()), text(7, long)
			all := append(bytes.Clone(x), 1, 2, 3)
			y := b.puts(t, name, all[:long:len(all)])
			if !bytes.Equal(all, append(bytes.Clone(x), 1, 2, 3)) {
				t.Errorf("%s: Put changed its value, or what stands behind it", name)
			}
			clear(all)
			b.gets(t, name, y, x)
			drives, places := shotOf(b.a), stockOf(b.p)
			keep := changed(y, func(*api.Blob) {})
			got, _ := blob.Get(b.a, b.c, y)
			other, _ := blob.Get(b.a, b.c, y)
			clear(got[:cap(got)])
			if !bytes.Equal(other, x) || !same(y, keep) {
				t.Errorf("%s: two answers share bytes, or Get changed its blob", name)
			}
			refs, twice := blob.Refs(y), blob.Refs(y)
			clear(refs[:cap(refs)])
			if !same(y, keep) || len(twice) == 0 || twice[0] != ref(y, 0) {
				t.Errorf("%s: Refs shares its answer", name)
			}
			blob.PutBytes(nil, y)
			if !blob.Right(b.c, y) || !same(y, keep) {
				t.Errorf("%s: a look changed the blob", name)
			}
			clear(y.Places[:cap(y.Places)])
			b.unchanged(t, name+", the places changed", drives, places)
			b.gets(t, name, keep, x)
		}
	}
}

func TestMemoryOfGetBytes(t *testing.T) {
	want := api.Blob{Size: 5, Gen: 300, Places: []int{7, 8, 300}}
	b := blob.PutBytes([]byte{1}, want)
	was := bytes.Clone(b)
	y, _, _ := blob.GetBytes(b, 1)
	other, _, _ := blob.GetBytes(b, 1)
	clear(y.Places[:cap(y.Places)])
	if !bytes.Equal(b, was) || !same(other, want) {
		t.Errorf("GetBytes shares its answer: %x, %v", b, other)
	}
	clear(b)
	if !same(other, want) {
		t.Errorf("GetBytes answered what was handed in: %v", other)
	}
}

// R8: the same call on the same arguments answers the same, and looks change nothing.
func TestSameAnswers(t *testing.T) {
	for _, z := range small() {
		for _, long := range z.lengths() {
			one := made(t, z, 16, gaps())
			two := one.copy()
			x := text(3, long)
			y, other := one.puts(t, z.name(), x), two.puts(t, z.name(), x)
			if !same(y, other) {
				t.Errorf("%s: Put(%d bytes) = %v, and %v", z.name(), long, y, other)
			}
			two.unchanged(t, z.name(), shotOf(one.a), stockOf(one.p))
			drives, places := shotOf(one.a), stockOf(one.p)
			for range 3 {
				one.gets(t, z.name(), y, x)
			}
			one.unchanged(t, z.name(), drives, places)
		}
	}
}

// R4: drives and pools that were made by two calls know nothing of one another.
func TestTwoBeds(t *testing.T) {
	one, two := made(t, size{2, 1}, 16, gaps()), made(t, size{2, 1}, 16, gaps())
	drives, places := shotOf(two.a), stockOf(two.p)
	y := one.puts(t, "one", text(1, 200))
	two.unchanged(t, "the other one", drives, places)
	two.fails(t, "the other one", y, api.ErrLost)
	z := two.puts(t, "two", text(2, 200))
	if !same(y, z) {
		t.Errorf("two puts of two beds: %v, %v", y, z)
	}
	one.gets(t, "one", y, text(1, 200))
	two.gets(t, "two", z, text(2, 200))
}

// Shards that a dead drive didn't take are missing; the value is put all the same.
func TestPutWithDeadDrives(t *testing.T) {
	for _, z := range small() {
		for set := range 1 << z.n() {
			b, gone := made(t, z, 16, gaps()), bits(set, z.n())
			for d, is := range gone {
				if is {
					b.a.Fail(d)
				}
			}
			x := text(2, 250)
			y := b.puts(t, z.name(), x)
			if !same(y, api.Blob{Size: 250, Gen: firstGap, Places: gapPlaces()[:z.count(250)]}) {
				t.Errorf("%s, dead %v: Put = %v", z.name(), gone, y)
			}
			b.gotOrLost(t, fmt.Sprint(z.name(), ", dead ", gone), y, x, many(gone) <= z.m)
		}
	}
}

// R1: no call panics, whatever it is handed.
func TestNothingPanics(t *testing.T) {
	f := field.New()
	dead := array.New(3, 9)
	for d := range 3 {
		dead.Fail(d)
	}
	arrays := []*array.Array{nil, {}, array.New(1, 1), array.New(2, 600), array.New(3, 9), dead, array.New(255, 3)}
	coders := []*code.Coder{nil, {}, code.New(f, 1, 1), code.New(f, 2, 1), code.New(f, 1, 2), code.New(f, 254, 1), code.New(f, 1, 254), code.New(nil, 1, 1), code.New(f, 0, 0)}
	numbers := []int{math.MinInt, math.MinInt + 1, -65536, -1, 0, 1, 2, 44, 45, 400, 401, 599, 600, 65536, math.MaxInt - 1, math.MaxInt}
	var blobs []api.Blob
	for _, n := range numbers {
		for _, gen := range []uint64{0, mostGen} {
			for _, l := range [][]int{nil, {n}, {0, n}, {n, n, n}, places(10), places(1000)} {
				blobs = append(blobs, api.Blob{Size: n, Gen: gen, Places: l}, api.Blob{Size: 100, Gen: gen, Places: l}, api.Blob{Size: 1, Gen: gen, Places: l})
			}
		}
	}
	for _, c := range coders {
		for _, n := range numbers {
			blob.Count(c, n)
		}
		for _, y := range blobs {
			blob.Right(c, y)
			blob.Refs(y)
			b := blob.PutBytes(nil, y)
			for _, at := range numbers {
				blob.GetBytes(b, at)
			}
		}
		for _, a := range arrays {
			for _, y := range blobs {
				blob.Get(a, c, y)
			}
			for _, p := range []*pool.Pool{nil, {}, pool.New(0, 1), pool.New(599, 1), pool.New(0, 400), gaps()} {
				for _, long := range []int{0, 1, 44, 45, 400, 401, 70000} {
					for range 3 {
						blob.Put(a, c, p, make([]byte, long))
					}
				}
			}
		}
	}
}
