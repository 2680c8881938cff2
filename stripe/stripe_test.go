package stripe_test

import (
	"bytes"
	"fmt"
	"hash/crc32"
	"math"
	"math/big"
	"reflect"
	"slices"
	"testing"

	"ciborium/api"
	"ciborium/array"
	"ciborium/code"
	"ciborium/field"
	"ciborium/shard"
	"ciborium/stripe"
)

// mostGen is the greatest number of a generation.
const mostGen = math.MaxUint64

// size is how many rows of data and of parity there are.
type size struct{ k, m int }

// small are sizes of which each set of drives can be gone through.
func small() []size {
	return []size{{1, 1}, {2, 1}, {1, 2}, {3, 1}, {2, 2}, {1, 3}, {4, 1}, {3, 2}, {2, 3}, {1, 4}}
}

// great are sizes with which all drives are there.
func great() []size { return []size{{1, 254}, {254, 1}, {127, 128}} }

// times is the product of two bytes, bit by bit.
func times(a, b byte) byte {
	product := 0
	for i := range 8 {
		if b>>i&1 == 1 {
			product ^= int(a) << i
		}
	}
	for i := 14; i >= 8; i-- {
		if product>>i&1 == 1 {
			product ^= 0x11d << (i - 8)
		}
	}
	return byte(product)
}

// inverse is the byte with which another one's product is 1.
func inverse(a byte) byte {
	for b := range 256 {
		if times(a, byte(b)) == 1 {
			return byte(b)
		}
	}
	return 0
}

// bodies are the rows of a text, and those of their parity, reckoned apart from the code.
func bodies(z size, text []byte) [][]byte {
	all := make([]byte, z.k*44)
	copy(all, text)
	var rows [][]byte
	for j := range z.k {
		rows = append(rows, all[j*44:(j+1)*44])
	}
	for i := z.k; i < z.k+z.m; i++ {
		row := make([]byte, 44)
		for j := range z.k {
			factor := inverse(byte(i ^ j))
			var by [256]byte
			for x := range by {
				by[x] = times(factor, byte(x))
			}
			for at := range row {
				row[at] ^= by[rows[j][at]]
			}
		}
		rows = append(rows, row)
	}
	return rows
}

// sector is a shard as bytes, laid out one by one.
func sector(ref api.Ref, index, long int, body []byte) []byte {
	b := make([]byte, 64)
	b[0], b[1] = ref.Kind, byte(index)
	b[2], b[3] = byte(ref.Place), byte(ref.Place>>8)
	for i := range 8 {
		b[4+i] = byte(ref.Gen >> (8 * i))
	}
	b[12], b[13] = byte(long), byte(long>>8)
	copy(b[16:60], body)
	return summed(b)
}

// summed answers 64 bytes with their last four made the sum of the others.
func summed(b []byte) []byte {
	b = bytes.Clone(b)
	sum := crc32.Checksum(b[:60], crc32.MakeTable(crc32.Castagnoli))
	for i := range 4 {
		b[60+i] = byte(sum >> (8 * i))
	}
	return b
}

// plain is what a stripe must be, a sector for each index.
func plain(z size, ref api.Ref, text []byte) [][]byte {
	var sectors [][]byte
	for index, body := range bodies(z, text) {
		sectors = append(sectors, sector(ref, index, len(text), body))
	}
	return sectors
}

// text answers so many bytes, each unlike those of another seed at its place.
func text(seed, long int) []byte {
	b := make([]byte, long)
	for i := range b {
		b[i] = byte(seed + 31*i + i/256)
	}
	return b
}

// bed is drives, and a coder of as many rows.
type bed struct {
	size
	a *array.Array
	c *code.Coder
}

// made answers a bed that there must be, of drives that nobody wrote to.
func made(t *testing.T, z size, sectors int) bed {
	t.Helper()
	b := bed{size: z, a: array.New(z.k+z.m, sectors), c: code.New(field.New(), z.k, z.m)}
	if b.a == nil || b.c == nil {
		t.Fatalf("no drives, or no coder, of %v and %d sectors", z, sectors)
	}
	return b
}

// noise answers a bed in each of whose sectors something else is stored, and no shard.
func noise(t *testing.T, z size, sectors int) bed {
	t.Helper()
	b := made(t, z, sectors)
	for d := range b.n() {
		for at := range sectors {
			b.a.Write(d, at, text(7*d+3*at+1, 64))
		}
	}
	b.a.Flush()
	return b
}

func (b bed) n() int       { return b.k + b.m }
func (b bed) room() int    { return 44 * b.k }
func (b bed) copy() bed    { return bed{size: b.size, a: b.a.Copy(), c: b.c} }
func (b bed) name() string { return fmt.Sprint("k ", b.k, ", m ", b.m) }

// home is the drive on which a shard lies.
func (b bed) home(ref api.Ref, index int) int { return (ref.Place + index) % b.n() }

// lengths are those of texts at the edges of rows and of the room.
func (b bed) lengths() []int {
	l := []int{0, 1, 43, 44, 45, b.room() - 1, b.room()}
	l = slices.DeleteFunc(l, func(long int) bool { return long > b.room() })
	slices.Sort(l)
	return slices.Compact(l)
}

// shot is all that drives tell, so that two of them can be held against each other.
type shot struct {
	waits        []int
	dead         []bool
	read, stored [][][]byte
}

func (b bed) shot() shot {
	var s shot
	for d := range b.a.N() {
		s.waits = append(s.waits, b.a.Waits(d))
		s.dead = append(s.dead, b.a.Dead(d))
		var read, stored [][]byte
		for at := range b.a.Sectors() {
			r, _ := b.a.Read(d, at)
			read, stored = append(read, r), append(stored, b.a.Stored(d, at))
		}
		s.read, s.stored = append(s.read, read), append(s.stored, stored)
	}
	return s
}

// unchanged tells what goes wrong where drives are to be as they were.
func (b bed) unchanged(t *testing.T, name string, was shot) {
	t.Helper()
	if is := b.shot(); !reflect.DeepEqual(is, was) {
		t.Errorf("%s: the drives are %v, and were %v", name, is, was)
	}
}

// puts puts what must be put, taken by that many.
func (b bed) puts(t *testing.T, name string, ref api.Ref, x []byte, many int) {
	t.Helper()
	if taken, e := stripe.Put(b.a, b.c, ref, x); taken != many || e != api.OK {
		t.Fatalf("%s: Put(%v, %d bytes) = %d, %d, want %d", name, ref, len(x), taken, e, many)
	}
}

// gets tells what goes wrong where a text is to be got.
func (b bed) gets(t *testing.T, name string, ref api.Ref, want []byte) {
	t.Helper()
	if x, e := stripe.Get(b.a, b.c, ref); !bytes.Equal(x, want) || e != api.OK {
		t.Errorf("%s: Get(%v) = %v, %d, want %v", name, ref, x, e, want)
	}
}

// lost tells what goes wrong where a stripe is to be lost, to Get and to Mend.
func (b bed) lost(t *testing.T, name string, ref api.Ref) {
	t.Helper()
	was := b.shot()
	if x, e := stripe.Get(b.a, b.c, ref); len(x) != 0 || e != api.ErrLost {
		t.Errorf("%s: Get(%v) = %v, %d, want nothing, %d", name, ref, x, e, api.ErrLost)
	}
	if taken, e := stripe.Mend(b.a, b.c, ref); taken != 0 || e != api.ErrLost {
		t.Errorf("%s: Mend(%v) = %d, %d, want 0, %d", name, ref, taken, e, api.ErrLost)
	}
	b.unchanged(t, name, was)
}

// whole tells what goes wrong where these shards are to be whole.
func (b bed) whole(t *testing.T, name string, ref api.Ref, want []bool) {
	t.Helper()
	if l := stripe.Whole(b.a, b.c, ref); !slices.Equal(l, want) {
		t.Errorf("%s: Whole(%v) = %v, want %v", name, ref, l, want)
	}
}

// gotOrLost tells what goes wrong where these shards are whole of a text that was put.
func (b bed) gotOrLost(t *testing.T, name string, ref api.Ref, x []byte, whole []bool) {
	t.Helper()
	b.whole(t, name, ref, whole)
	if count(whole) >= b.k {
		b.gets(t, name, ref, x)
	} else {
		b.lost(t, name, ref)
	}
}

// count tells how many are so.
func count(list []bool) int {
	many := 0
	for _, is := range list {
		if is {
			many++
		}
	}
	return many
}

// bits are n bools: number's bits, the lowest first.
func bits(number, n int) []bool {
	l := make([]bool, n)
	for i := range l {
		l[i] = number>>i&1 == 1
	}
	return l
}

// each answers n times the same.
func each[T any](n int, x T) []T { return slices.Repeat([]T{x}, n) }

func TestExamples(t *testing.T) {
	if d := stripe.Home(5, 7, 4); d != 1 {
		t.Errorf("Home(5, 7, 4) = %d", d)
	}
	if many := stripe.Room(code.New(field.New(), 2, 1)); many != 88 {
		t.Errorf("Room of k 2, m 1 = %d", many)
	}
}

// P13.1

func TestHomeOfEachPlaceAndIndex(t *testing.T) {
	for _, n := range []int{1, 2, 3, 4, 5, 7, 8, 16, 254, 255} {
		first := 0
		for place := range 600 {
			want := first
			for index := range 2*n + 3 {
				if d := stripe.Home(n, place, index); d != want {
					t.Errorf("Home(%d, %d, %d) = %d, want %d", n, place, index, d, want)
				}
				want++
				if want == n {
					want = 0
				}
			}
			first++
			if first == n {
				first = 0
			}
		}
	}
}

func TestHomeWhereThereIsNone(t *testing.T) {
	numbers := []int{math.MinInt, math.MinInt + 1, -256, -5, -1, 0, 1, 3, 7, 255, 1 << 40, math.MaxInt}
	for _, n := range numbers {
		for _, place := range numbers {
			for _, index := range numbers {
				if n >= 1 && place >= 0 && index >= 0 {
					continue
				}
				if d := stripe.Home(n, place, index); d != 0 {
					t.Errorf("Home(%d, %d, %d) = %d, want 0", n, place, index, d)
				}
			}
		}
	}
}

// round is an int that a sum goes to, when there is no room for it.
func round(sum *big.Int) *big.Int {
	low := new(big.Int).And(sum, new(big.Int).SetUint64(math.MaxUint64)).Uint64()
	return big.NewInt(int64(low))
}

func TestHomeOfTheGreatest(t *testing.T) {
	for _, c := range []struct{ n, place, index, want int }{
		{1, math.MaxInt, math.MaxInt, 0},
		{2, math.MaxInt, math.MaxInt, 0},
		{255, math.MaxInt, 0, 127},
		{255, math.MaxInt, math.MaxInt, 254},
		{math.MaxInt, 1, 2, 3},
		{math.MaxInt, math.MaxInt, math.MaxInt, 0},
		{math.MaxInt, math.MaxInt - 1, 1, 0},
		{math.MaxInt, math.MaxInt - 1, 2, -1},
		{math.MaxInt, math.MaxInt - 1, math.MaxInt - 1, -4},
		{1 << 62, 1<<62 - 1, 1<<62 - 1, 1<<62 - 2},
		{1<<62 + 1, 1 << 62, 1<<62 - 1, 1<<62 - 2},
		{1<<62 + 1, 1 << 62, 1 << 62, 1 - 1<<62},
	} {
		if d := stripe.Home(c.n, c.place, c.index); d != c.want {
			t.Errorf("Home(%d, %d, %d) = %d, want %d", c.n, c.place, c.index, d, c.want)
		}
	}
	numbers := []int{0, 1, 2, 254, 255, 256, 1<<32 + 5, 1<<62 - 1, 1 << 62, 1<<62 + 1, 1<<62 + 99, math.MaxInt - 2, math.MaxInt - 1, math.MaxInt}
	for _, n := range numbers[1:] {
		for _, place := range numbers {
			for _, index := range numbers {
				by := big.NewInt(int64(n))
				p := new(big.Int).Rem(big.NewInt(int64(place)), by)
				i := new(big.Int).Rem(big.NewInt(int64(index)), by)
				want := new(big.Int).Rem(round(p.Add(p, i)), by).Int64()
				if d := stripe.Home(n, place, index); int64(d) != want {
					t.Errorf("Home(%d, %d, %d) = %d, want %d", n, place, index, d, want)
				}
			}
		}
	}
}

func TestRoom(t *testing.T) {
	f := field.New()
	for k := 1; k <= 254; k++ {
		for _, m := range []int{1, 255 - k} {
			if many := stripe.Room(code.New(f, k, m)); many != 44*k {
				t.Errorf("Room of k %d, m %d = %d, want %d", k, m, many, 44*k)
			}
		}
	}
	if many := stripe.Room(nil); many != 0 {
		t.Errorf("Room of no coder = %d", many)
	}
	if many := stripe.Room(new(code.Coder)); many != 0 {
		t.Errorf("Room of a coder that nobody made = %d", many)
	}
}

// The numbers stand here one by one, so that this test leans on nothing that it tests.
func TestAStripeByteByByte(t *testing.T) {
	b := made(t, size{2, 1}, 3)
	x := text(1, 50)
	ref := api.Ref{Kind: api.KindValue, Place: 2, Gen: 0x0807060504030201}
	b.puts(t, "fifty bytes", ref, x, 3)
	for index, d := range []int{2, 0, 1} {
		s, _ := b.a.Read(d, 2)
		head := []byte{3, byte(index), 2, 0, 1, 2, 3, 4, 5, 6, 7, 8, 50, 0, 0, 0}
		if !bytes.Equal(s[:16], head) || !bytes.Equal(s, summed(s)) {
			t.Errorf("index %d = %x, want %x ahead, and their sum behind", index, s, head)
		}
		for i := range 44 {
			second := byte(0)
			if 44+i < len(x) {
				second = x[44+i]
			}
			want := []byte{x[i], second, times(142, x[i]) ^ times(244, second)}[index]
			if s[16+i] != want {
				t.Errorf("index %d: byte %d of the body = %d, want %d", index, i, s[16+i], want)
			}
		}
	}
}

// P13.2

// refs are names of each kind, at each of some places, with generations small and great.
func refs(places ...int) []api.Ref {
	var l []api.Ref
	for kind := uint8(1); kind <= 4; kind++ {
		for _, place := range places {
			for _, gen := range []uint64{0, 1, 0x123456789abcdef, mostGen} {
				l = append(l, api.Ref{Kind: kind, Place: place, Gen: gen})
			}
		}
	}
	return l
}

// lies tells what goes wrong where a stripe is to wait in sectors that were something else, and nothing else is to have changed.
func (b bed) lies(t *testing.T, name string, was shot, ref api.Ref, x []byte, written []bool) {
	t.Helper()
	for index, s := range plain(b.size, ref, x) {
		if d := b.home(ref, index); written[index] {
			was.read[d] = slices.Clone(was.read[d])
			was.read[d][ref.Place] = s
			was.waits[d]++
		}
	}
	b.unchanged(t, name, was)
}

func TestPutOfEachLength(t *testing.T) {
	for _, z := range append(small(), size{4, 4}, size{7, 2}) {
		b := noise(t, z, 4)
		for _, long := range b.lengths() {
			for i, ref := range refs(0, 1, 3) {
				name := fmt.Sprint(b.name(), ", ", ref, ", ", long, " bytes")
				now, x := b.copy(), text(i, long)
				now.puts(t, name, ref, x, b.n())
				now.lies(t, name, b.shot(), ref, x, each(b.n(), true))
				now.whole(t, name, ref, each(b.n(), true))
				now.gets(t, name, ref, x)
			}
		}
	}
}

func TestPutOfTheGreatest(t *testing.T) {
	for _, z := range great() {
		b := noise(t, z, 2)
		for _, long := range b.lengths() {
			name := fmt.Sprint(b.name(), ", ", long, " bytes")
			now, x, ref := b.copy(), text(9, long), api.Ref{Kind: 4, Place: 1, Gen: mostGen}
			now.puts(t, name, ref, x, 255)
			now.lies(t, name, b.shot(), ref, x, each(255, true))
			now.gets(t, name, ref, x)
		}
	}
	b := noise(t, size{2, 2}, 600)
	for _, place := range []int{0, 255, 256, 257, 598, 599} {
		name := fmt.Sprint("place ", place)
		now, x, ref := b.copy(), text(place, 60), api.Ref{Kind: 2, Place: place, Gen: 5}
		now.puts(t, name, ref, x, 4)
		now.lies(t, name, b.shot(), ref, x, each(4, true))
		now.gets(t, name, ref, x)
	}
}

func TestPutWithEachSetOfDeadDrives(t *testing.T) {
	for _, z := range small() {
		b := noise(t, z, 2)
		for place := range 2 {
			ref, x := api.Ref{Kind: 1, Place: place, Gen: 77}, text(place, b.room()-3)
			for set := range 1 << b.n() {
				name := fmt.Sprint(b.name(), ", place ", place, ", alive ", bits(set, b.n()))
				now, alive := b.copy(), bits(set, b.n())
				for index, is := range alive {
					if !is {
						now.a.Fail(b.home(ref, index))
					}
				}
				was := now.shot()
				now.puts(t, name, ref, x, count(alive))
				now.lies(t, name, was, ref, x, alive)
				now.gotOrLost(t, name, ref, x, alive)
			}
		}
	}
}

// refused tells what goes wrong where all calls are to answer an error, and to write nothing.
func (b bed) refused(t *testing.T, name string, ref api.Ref, x []byte, put, others api.Errno) {
	t.Helper()
	was := b.shot()
	if taken, e := stripe.Put(b.a, b.c, ref, x); put != api.OK && (taken != 0 || e != put) {
		t.Errorf("%s: Put(%v, %d bytes) = %d, %d, want 0, %d", name, ref, len(x), taken, e, put)
	}
	if others != api.OK {
		if got, e := stripe.Get(b.a, b.c, ref); len(got) != 0 || e != others {
			t.Errorf("%s: Get(%v) = %v, %d, want nothing, %d", name, ref, got, e, others)
		}
		if taken, e := stripe.Mend(b.a, b.c, ref); taken != 0 || e != others {
			t.Errorf("%s: Mend(%v) = %d, %d, want 0, %d", name, ref, taken, e, others)
		}
		if l := stripe.Whole(b.a, b.c, ref); len(l) != 0 {
			t.Errorf("%s: Whole(%v) = %v, want nothing", name, ref, l)
		}
	}
	b.unchanged(t, name, was)
}

// Each error alone, and all of them with all others: the plain order of the chapter tells which one it is.
func TestErrors(t *testing.T) {
	f := field.New()
	arrays := map[string]*array.Array{"no array": nil, "an array that nobody made": {}, "1 drive": array.New(1, 3), "2 drives": array.New(2, 3), "3 drives": array.New(3, 3), "4 drives": array.New(4, 3), "255 drives": array.New(255, 3)}
	coders := map[string]*code.Coder{"no coder": nil, "a coder that nobody made": {}, "2 and 1": code.New(f, 2, 1), "1 and 2": code.New(f, 1, 2)}
	for an, a := range arrays {
		for cn, c := range coders {
			for _, kind := range []uint8{0, 1, 2, 3, 4, 5, 128, 255} {
				for _, place := range []int{math.MinInt, -65536, -1, 0, 1, 2, 3, 4, 600, 65536, 65537, math.MaxInt} {
					for _, long := range []int{0, stripe.Room(c), stripe.Room(c) + 1, 65536} {
						put, others := api.OK, api.OK
						if long > stripe.Room(c) {
							put = api.ErrLarge
						}
						if a.N() != 3 || kind < 1 || kind > 4 || place < 0 || place > 2 {
							put, others = api.ErrArg, api.ErrArg
						}
						if a.N() == 0 || c.N() == 0 {
							put, others = api.ErrNil, api.ErrNil
						}
						b := bed{a: a, c: c}
						if put != api.OK {
							b.refused(t, fmt.Sprint(an, ", ", cn), api.Ref{Kind: kind, Place: place}, make([]byte, long), put, others)
						}
					}
				}
			}
		}
	}
}

// Where something was put, nothing of it is told beside an error, nor changed.
func TestErrorsWhereAStripeLies(t *testing.T) {
	b := noise(t, size{2, 1}, 3)
	x := text(4, 80)
	ref := api.Ref{Kind: 3, Place: 2, Gen: 9}
	b.puts(t, "the stripe", ref, x, 3)
	b.a.Flush()
	with := func(change func(r *api.Ref)) api.Ref {
		r := ref
		change(&r)
		return r
	}
	for _, kind := range []uint8{0, 5, 255} {
		b.refused(t, "a kind", with(func(r *api.Ref) { r.Kind = kind }), x, api.ErrArg, api.ErrArg)
	}
	for _, place := range []int{-1, 3, 4, 65538, math.MaxInt, math.MinInt, math.MinInt + 2} {
		b.refused(t, "a place", with(func(r *api.Ref) { r.Place = place }), x, api.ErrArg, api.ErrArg)
	}
	b.refused(t, "a long text", ref, make([]byte, 89), api.ErrLarge, api.OK)
	b.refused(t, "a very long text", ref, make([]byte, 65536+80), api.ErrLarge, api.OK)
	f := field.New()
	for _, z := range []size{{1, 1}, {2, 2}, {3, 1}, {254, 1}} {
		bed{a: b.a, c: code.New(f, z.k, z.m)}.refused(t, "another coder", ref, x, api.ErrArg, api.ErrArg)
	}
	bed{a: b.a}.refused(t, "no coder", ref, x, api.ErrNil, api.ErrNil)
	bed{a: b.a, c: new(code.Coder)}.refused(t, "a zero coder", ref, x, api.ErrNil, api.ErrNil)
	b.gets(t, "behind all that", ref, x)
}

// One byte more than there is room for, and nothing is written.
func TestPutOfTooMuch(t *testing.T) {
	for _, z := range append(small(), great()...) {
		b := noise(t, z, 2)
		for _, more := range []int{1, 2, 44, 65536} {
			b.refused(t, b.name(), api.Ref{Kind: 3, Place: 1, Gen: 4}, text(3, b.room()+more), api.ErrLarge, api.OK)
		}
	}
}

// P13.3

// harm is something that a shard is whole no more behind.
type harm struct {
	name  string
	alive bool // its drive takes writes behind it
	to    func(b bed, ref api.Ref, index int)
}

// turned is a harm by which what is stored of a shard is something else.
func turned(name string, turn func(b bed, s []byte) []byte) harm {
	return harm{name, true, func(b bed, ref api.Ref, index int) {
		d := b.home(ref, index)
		s, _ := b.a.Read(d, ref.Place)
		b.a.Write(d, ref.Place, turn(b, s))
		b.a.Flush()
	}}
}

// headed is a harm by which one field of a shard is another one, under a sum that is right.
func headed(name string, change func(b bed, s *api.Shard)) harm {
	return turned(name, func(b bed, sector []byte) []byte {
		s, _ := shard.Get(sector)
		change(b, &s)
		changed, _ := shard.Put(s)
		return changed
	})
}

func dies() harm {
	return harm{"a dead drive", false, func(b bed, ref api.Ref, index int) { b.a.Fail(b.home(ref, index)) }}
}

func renewed() harm {
	return harm{"a new drive", true, func(b bed, ref api.Ref, index int) {
		b.a.Fail(b.home(ref, index))
		b.a.Replace(b.home(ref, index))
	}}
}

func rots(mask uint32) harm {
	return harm{fmt.Sprintf("rot %x", mask), true, func(b bed, ref api.Ref, index int) {
		b.a.Rot(b.home(ref, index), ref.Place, (ref.Place*7+index*11)%61, mask)
	}}
}

// harms are all kinds by which a shard isn't whole, whatever the other ones say.
func harms() []harm {
	l := []harm{dies(), renewed(), rots(1), rots(0x80000000), rots(math.MaxUint32)}
	for more := uint8(1); more <= 3; more++ {
		l = append(l, headed(fmt.Sprint("kind ", more, " more"), func(_ bed, s *api.Shard) { s.Kind = (s.Kind-1+more)%4 + 1 }))
	}
	for i := range 64 {
		l = append(l, headed(fmt.Sprint("bit ", i, " of the generation"), func(_ bed, s *api.Shard) { s.Gen ^= 1 << i }))
	}
	for i := range 16 {
		l = append(l, headed(fmt.Sprint("bit ", i, " of the place"), func(_ bed, s *api.Shard) { s.Place ^= 1 << i }))
	}
	for i := range 8 {
		l = append(l, headed(fmt.Sprint("bit ", i, " of the index"), func(_ bed, s *api.Shard) { s.Index ^= 1 << i }))
	}
	for _, more := range []int{1, 2, 44, 65535} {
		l = append(l, headed(fmt.Sprint("a Size ", more, " above Room"), func(b bed, s *api.Shard) { s.Size = uint16(min(b.room()+more, 65535)) }))
	}
	for _, at := range []int{0, 1, 15, 16, 59, 60, 63} {
		l = append(l, turned(fmt.Sprint("a wrong sum at ", at), func(_ bed, s []byte) []byte { s[at] ^= 4; return s }))
	}
	return append(l,
		turned("noughts", func(bed, []byte) []byte { return make([]byte, 64) }),
		turned("something else", func(bed, []byte) []byte { return text(5, 64) }),
		turned("kind 0 with a right sum", func(_ bed, s []byte) []byte { s[0] = 0; return summed(s) }),
		turned("kind 7 with a right sum", func(_ bed, s []byte) []byte { s[0] |= 7; return summed(s) }),
		turned("a nought that is none, with a right sum", func(_ bed, s []byte) []byte { s[14] = 1; return summed(s) }),
	)
}

// few are harms of each way.
func few() []harm {
	return []harm{
		dies(), renewed(), rots(0x00ffff00),
		headed("another generation", func(_ bed, s *api.Shard) { s.Gen++ }),
		headed("another kind", func(_ bed, s *api.Shard) { s.Kind = s.Kind%4 + 1 }),
	}
}

// laid answers a bed with a stripe that was flushed, and other stripes at the other places.
func laid(t *testing.T, z size, ref api.Ref, x []byte) bed {
	t.Helper()
	b := noise(t, z, 3)
	for place := range 3 {
		one, y := api.Ref{Kind: 4, Place: place, Gen: uint64(1000 + place)}, text(place, b.room())
		if place == ref.Place {
			one, y = ref, x
		}
		b.puts(t, b.name(), one, y, b.n())
	}
	b.a.Flush()
	return b
}

// mends tells what goes wrong where Mend is to make shards anew, of those that aren't whole, on drives that are there; these alone, as Put would have written them.
func (b bed) mends(t *testing.T, name string, ref api.Ref, x []byte, whole, alive []bool) {
	t.Helper()
	b.a.Flush()
	was := b.shot()
	written := make([]bool, b.n())
	for index := range written {
		written[index] = !whole[index] && alive[index]
	}
	if taken, e := stripe.Mend(b.a, b.c, ref); taken != count(written) || e != api.OK {
		t.Errorf("%s: Mend(%v) = %d, %d, want %d", name, ref, taken, e, count(written))
	}
	b.lies(t, name, was, ref, x, written)
	b.gotOrLost(t, name, ref, x, alive)
	if taken, e := stripe.Mend(b.a, b.c, ref); taken != 0 || e != api.OK {
		t.Errorf("%s: a second Mend(%v) = %d, %d, want 0", name, ref, taken, e)
	}
}

// bears tells what goes wrong behind harms to shards: with each of these, whatever the number of whole shards is.
func (b bed) bears(t *testing.T, name string, ref api.Ref, x []byte, done []*harm) {
	t.Helper()
	now := b.copy()
	whole, alive := each(b.n(), true), each(b.n(), true)
	for index, h := range done {
		if h != nil {
			h.to(now, ref, index)
			whole[index], alive[index] = false, h.alive
			name += fmt.Sprint(", ", h.name, " at ", index)
		}
	}
	now.gotOrLost(t, name, ref, x, whole)
	if count(whole) >= b.k {
		now.mends(t, name, ref, x, whole, alive)
	}
}

// Each set of drives dead, of sectors rotten, and so on.
func TestEachSetOfShardsLost(t *testing.T) {
	for _, z := range small() {
		for place := range 3 {
			ref := api.Ref{Kind: uint8(place + 1), Place: place, Gen: 1<<20 + 3}
			x := text(place, 44*z.k-place*5)
			b := laid(t, z, ref, x)
			for _, h := range few() {
				for set := range 1 << b.n() {
					done := make([]*harm, b.n())
					for index, is := range bits(set, b.n()) {
						if is {
							done[index] = &h
						}
					}
					b.bears(t, b.name(), ref, x, done)
				}
			}
		}
	}
}

// Each drive of up to four is as it was, or something else each.
func TestEachMixOfHarms(t *testing.T) {
	for _, z := range small() {
		if z.k+z.m > 4 {
			continue
		}
		ref, x := api.Ref{Kind: 2, Place: 1, Gen: 5}, text(3, 44*z.k-1)
		b := laid(t, z, ref, x)
		l := few()
		ways := 1
		for range b.n() {
			ways *= len(l) + 1
		}
		for way := range ways {
			done := make([]*harm, b.n())
			for index := range done {
				if one := way % (len(l) + 1); one > 0 {
					done[index] = &l[one-1]
				}
				way /= len(l) + 1
			}
			b.bears(t, b.name(), ref, x, done)
		}
	}
}

// All that makes a shard not whole, at each index, and at all sets of m and of one more.
func TestShardsThatAreNotWhole(t *testing.T) {
	for _, z := range []size{{1, 1}, {2, 1}, {1, 2}, {2, 2}} {
		for _, long := range []int{0, 1, 44 * z.k} {
			ref, x := api.Ref{Kind: 1, Place: 1, Gen: 0x123456789abcdef}, text(8, long)
			b := laid(t, z, ref, x)
			for _, h := range harms() {
				for set := range 1 << b.n() {
					done := make([]*harm, b.n())
					for index, is := range bits(set, b.n()) {
						if is {
							done[index] = &h
						}
					}
					b.bears(t, fmt.Sprint(b.name(), ", ", long, " bytes"), ref, x, done)
				}
			}
		}
	}
}

// What was never written is no shard, of no name.
func TestNeverWritten(t *testing.T) {
	for _, z := range append(small(), great()...) {
		b := made(t, z, 2)
		for _, ref := range refs(0, 1)[:8] {
			b.whole(t, b.name(), ref, make([]bool, b.n()))
			b.lost(t, b.name(), ref)
		}
	}
}

// ofSizes writes shards of one text, each with a Size of its own, or none where this is below 0.
func (b bed) ofSizes(ref api.Ref, x []byte, sizes []int) {
	for index, body := range bodies(b.size, x) {
		s := sector(ref, index, sizes[index], body)
		if sizes[index] < 0 {
			s = make([]byte, 64)
		}
		b.a.Write(b.home(ref, index), ref.Place, s)
	}
	b.a.Flush()
}

// Each shard has one of some Sizes: those that are above Room aren't whole, and of the others the least index tells which one counts.
func TestSizes(t *testing.T) {
	for _, z := range []size{{1, 1}, {2, 1}, {1, 2}, {2, 2}, {3, 1}, {1, 3}} {
		b := noise(t, z, 2)
		ref, x := api.Ref{Kind: 3, Place: 1, Gen: 6}, text(2, 44*z.k)
		some := []int{-1, 0, 30, b.room(), b.room() + 1, 65535}
		ways := 1
		for range b.n() {
			ways *= len(some)
		}
		for way := range ways {
			sizes := make([]int, b.n())
			for index := range sizes {
				sizes[index] = some[way%len(some)]
				way /= len(some)
			}
			counts := -1
			whole := make([]bool, b.n())
			for index, long := range sizes {
				right := 0 <= long && long <= b.room()
				if right && counts < 0 {
					counts = long
				}
				whole[index] = right && long == counts
			}
			now := b.copy()
			now.ofSizes(ref, x, sizes)
			name := fmt.Sprint(b.name(), ", sizes ", sizes)
			now.gotOrLost(t, name, ref, x[:max(counts, 0)], whole)
		}
	}
}

// One that tells another Size makes others not whole, if its index is the least, and is itself not whole, if it isn't.
func TestSizeOfTheLeast(t *testing.T) {
	ref := api.Ref{Kind: 3, Place: 0, Gen: 6}
	x := text(2, 60)
	for _, c := range []struct {
		sizes []int
		whole []bool
	}{
		{[]int{60, 60, 60, 60}, []bool{true, true, true, true}},
		{[]int{61, 60, 60, 60}, []bool{true, false, false, false}},
		{[]int{60, 61, 60, 60}, []bool{true, false, true, true}},
		{[]int{60, 60, 60, 61}, []bool{true, true, true, false}},
		{[]int{-1, 61, 60, 60}, []bool{false, true, false, false}},
		{[]int{-1, 60, 61, 60}, []bool{false, true, false, true}},
		{[]int{89, 60, 60, 60}, []bool{false, true, true, true}},
		{[]int{89, 88, 60, 60}, []bool{false, true, false, false}},
		{[]int{89, 89, 89, 89}, []bool{false, false, false, false}},
		{[]int{61, 60, 61, 60}, []bool{true, false, true, false}},
	} {
		b := made(t, size{2, 2}, 1)
		b.ofSizes(ref, x, c.sizes)
		name := fmt.Sprint("sizes ", c.sizes)
		b.whole(t, name, ref, c.whole)
		if count(c.whole) < 2 {
			b.lost(t, name, ref)
		} else if taken, e := stripe.Mend(b.a, b.c, ref); taken != 4-count(c.whole) || e != api.OK {
			t.Errorf("%s: Mend = %d, %d, want %d", name, taken, e, 4-count(c.whole))
		} else {
			b.whole(t, name+", mended", ref, each(4, true))
		}
	}
}

// Of shards of two texts of one name and length those count that layer 6 takes: the data that are there, and else the first k.
func TestShardsOfTwoTexts(t *testing.T) {
	ref := api.Ref{Kind: 3, Place: 2, Gen: 6}
	x, y := text(1, 30), text(99, 30)
	for _, z := range []size{{1, 1}, {1, 2}, {1, 4}} {
		for set := range 1 << (z.k + z.m) {
			b := laid(t, z, ref, x)
			other := plain(z, ref, y)
			of := bits(set, b.n())
			for index, is := range of {
				if is {
					b.a.Write(b.home(ref, index), 2, other[index])
				}
			}
			for first := range of {
				want := x
				if of[first] {
					want = y
				}
				name := fmt.Sprint(b.name(), ", of the other ", of, " from ", first, " on")
				b.gets(t, name, ref, want)
				b.a.Fail(b.home(ref, first))
			}
		}
	}
}

// P13.4

// sets are some sets of so many of n, that all lie elsewhere.
func sets(n, many int) [][]int {
	var first, last, turns []int
	for i := range many {
		first = append(first, i)
		last = append(last, n-1-i)
		turns = append(turns, i*n/many)
	}
	return [][]int{first, last, turns}
}

// Any m may be lost, by dead drives and by rot, and one more may not.
func TestAsManyAsMayBeLost(t *testing.T) {
	for _, z := range append(great(), size{8, 4}, size{5, 11}, size{16, 3}) {
		ref, x := api.Ref{Kind: 4, Place: 1, Gen: 12345}, text(6, 44*z.k-7)
		b := laid(t, z, ref, x)
		dead, rotten := dies(), rots(0x01010101)
		for more := range 2 {
			for at, set := range sets(b.n(), z.m+more) {
				done := make([]*harm, b.n())
				for i, index := range set {
					done[index] = &dead
					if (i+at)%2 == 0 {
						done[index] = &rotten
					}
				}
				b.bears(t, fmt.Sprint(b.name(), ", set ", at), ref, x, done)
			}
		}
	}
}

// Behind Mend, with new drives in the places of dead ones, all shards are whole, and any others may be lost.
func TestMendBringsAllBack(t *testing.T) {
	for _, z := range small() {
		ref, x := api.Ref{Kind: 3, Place: 2, Gen: 8}, text(2, 44*z.k)
		b := laid(t, z, ref, x)
		was := b.shot()
		for set := range 1 << b.n() {
			if gone := bits(set, b.n()); count(gone) > z.m {
				continue
			}
			now := b.copy()
			for index, is := range bits(set, b.n()) {
				if is {
					renewed().to(now, ref, index)
				}
			}
			name := fmt.Sprint(b.name(), ", new drives ", bits(set, b.n()))
			for place := range 3 {
				r := api.Ref{Kind: 4, Place: place, Gen: uint64(1000 + place)}
				if place == ref.Place {
					r = ref
				}
				if taken, e := stripe.Mend(now.a, now.c, r); taken != count(bits(set, b.n())) || e != api.OK {
					t.Errorf("%s: Mend(%v) = %d, %d", name, r, taken, e)
				}
				now.whole(t, name, r, each(b.n(), true))
			}
			now.a.Flush()
			now.unchanged(t, name, was)
		}
	}
}

// crash has the power go, with a list of each drive's writes.
func (b bed) crash(keep func(d, i int) bool) {
	lists := make([][]bool, b.n())
	for d := range lists {
		for i := range b.a.Waits(d) {
			lists[d] = append(lists[d], keep(d, i))
		}
	}
	b.a.Crash(lists)
}

// What wasn't flushed is got just if k of its shards were kept; what was there ahead of it, just if as many of it weren't written over; and all else is as it was.
func TestCrashBehindPut(t *testing.T) {
	for _, z := range small() {
		old, x := api.Ref{Kind: 3, Place: 1, Gen: 8}, text(2, 44*z.k)
		b := laid(t, z, old, x)
		was := b.shot()
		for _, ref := range []api.Ref{{Kind: 3, Place: 1, Gen: 9}, {Kind: 2, Place: 1, Gen: 8}} {
			y := text(50, 44*z.k-9)
			sectors := plain(z, ref, y)
			for set := range 1 << b.n() {
				kept := bits(set, b.n())
				now := b.copy()
				now.puts(t, b.name(), ref, y, b.n())
				now.crash(func(d, _ int) bool { return kept[(d+b.n()-1)%b.n()] })
				name := fmt.Sprint(b.name(), ", ", ref, ", kept ", kept)
				then := now.shot()
				left := make([]bool, b.n())
				for index, is := range kept {
					d := b.home(ref, index)
					left[index] = !is
					want := was.stored[d][1]
					if is {
						want = sectors[index]
					}
					if !bytes.Equal(then.stored[d][1], want) || !bytes.Equal(then.read[d][1], want) {
						t.Errorf("%s: index %d = %x, want %x", name, index, then.stored[d][1], want)
					}
					for _, place := range []int{0, 2} {
						if !bytes.Equal(then.stored[d][place], was.stored[d][place]) {
							t.Errorf("%s: place %d of drive %d changed", name, place, d)
						}
					}
				}
				now.gotOrLost(t, name, ref, y, kept)
				now.gotOrLost(t, name, old, x, left)
				for _, place := range []int{0, 2} {
					now.gets(t, name, api.Ref{Kind: 4, Place: place, Gen: uint64(1000 + place)}, text(place, b.room()))
				}
			}
		}
	}
}

// Two stripes that wait: each is got by its own writes alone.
func TestCrashBehindTwoPuts(t *testing.T) {
	for _, z := range []size{{1, 1}, {2, 1}, {1, 2}, {2, 2}} {
		b := noise(t, z, 3)
		one, x := api.Ref{Kind: 3, Place: 2, Gen: 8}, text(2, 44*z.k)
		two, y := api.Ref{Kind: 3, Place: 0, Gen: 8}, text(3, 20)
		b.puts(t, b.name(), one, x, b.n())
		b.puts(t, b.name(), two, y, b.n())
		for set := range 1 << (2 * b.n()) {
			kept := bits(set, 2*b.n())
			now := b.copy()
			now.crash(func(d, i int) bool { return kept[2*d+i] })
			ones, twos := make([]bool, b.n()), make([]bool, b.n())
			for index := range b.n() {
				ones[index] = kept[2*b.home(one, index)]
				twos[index] = kept[2*b.home(two, index)+1]
			}
			name := fmt.Sprint(b.name(), ", kept ", kept)
			now.gotOrLost(t, name, one, x, ones)
			now.gotOrLost(t, name, two, y, twos)
		}
	}
}

// Two that wait at one place: of each drive the later one that was kept is there.
func TestCrashBehindTwoPutsOfOnePlace(t *testing.T) {
	for _, z := range []size{{1, 1}, {2, 1}, {1, 2}, {2, 2}} {
		b := noise(t, z, 2)
		one, x := api.Ref{Kind: 3, Place: 1, Gen: 8}, text(2, 44*z.k)
		two, y := api.Ref{Kind: 3, Place: 1, Gen: 9}, text(3, 20)
		b.puts(t, b.name(), one, x, b.n())
		b.puts(t, b.name(), two, y, b.n())
		b.whole(t, b.name(), two, each(b.n(), true))
		b.lost(t, b.name(), one)
		for set := range 1 << (2 * b.n()) {
			kept := bits(set, 2*b.n())
			now := b.copy()
			now.crash(func(d, i int) bool { return kept[2*d+i] })
			ones, twos := make([]bool, b.n()), make([]bool, b.n())
			for index := range b.n() {
				d := b.home(one, index)
				twos[index] = kept[2*d+1]
				ones[index] = kept[2*d] && !twos[index]
			}
			name := fmt.Sprint(b.name(), ", kept ", kept)
			now.gotOrLost(t, name, one, x, ones)
			now.gotOrLost(t, name, two, y, twos)
		}
	}
}

// A crash behind Mend loses nothing, whatever it keeps.
func TestCrashBehindMend(t *testing.T) {
	for _, z := range small() {
		ref, x := api.Ref{Kind: 3, Place: 1, Gen: 8}, text(2, 44*z.k)
		b := laid(t, z, ref, x)
		for index := range z.m {
			rots(0xff).to(b, ref, (index*2+1)%b.n())
		}
		if taken, e := stripe.Mend(b.a, b.c, ref); e != api.OK || taken > z.m {
			t.Fatalf("%s: Mend = %d, %d", b.name(), taken, e)
		}
		for set := range 1 << b.n() {
			now := b.copy()
			now.crash(func(d, _ int) bool { return bits(set, b.n())[d] })
			now.gets(t, fmt.Sprint(b.name(), ", kept ", bits(set, b.n())), ref, x)
		}
	}
}

// Another stripe at its place, and the old one is gone, also where drives died between the two; with m more of them dead the new one is got.
func TestGoneBehindAnother(t *testing.T) {
	for _, z := range small() {
		old, x := api.Ref{Kind: 3, Place: 1, Gen: 8}, text(2, 44*z.k)
		b := laid(t, z, old, x)
		for _, ref := range []api.Ref{{Kind: 3, Place: 1, Gen: 9}, {Kind: 3, Place: 1, Gen: 7}, {Kind: 4, Place: 1, Gen: 8}, {Kind: 2, Place: 1, Gen: mostGen}} {
			y := text(51, 44*z.k-2)
			for set := range 1 << b.n() {
				alive := bits(set, b.n())
				name := fmt.Sprint(b.name(), ", ", ref, ", alive ", alive)
				now := b.copy()
				for index, is := range alive {
					if !is {
						now.a.Fail(b.home(old, index))
					}
				}
				now.puts(t, name, ref, y, count(alive))
				gone := func(when string) {
					t.Helper()
					now.whole(t, name+when, old, make([]bool, b.n()))
					now.lost(t, name+when, old)
					now.gotOrLost(t, name+when, ref, y, alive)
				}
				gone(", waiting")
				now.a.Flush()
				gone(", flushed")
				for d := range b.n() {
					if now.a.Dead(d) {
						now.a.Replace(d)
					}
				}
				gone(", with new drives")
			}
		}
	}
}

// No other name reads what lies at a place.
func TestNoOtherName(t *testing.T) {
	b := made(t, size{2, 2}, 4)
	own := api.Ref{Kind: 3, Place: 1, Gen: 2097157}
	b.puts(t, "own", own, text(1, 70), 4)
	for kind := uint8(1); kind <= 4; kind++ {
		for place := range 4 {
			gens := []uint64{0, 1, 2097157, 2097156, 2097158, 2097157 ^ 1<<63, mostGen}
			for i := range 64 {
				gens = append(gens, own.Gen^1<<i)
			}
			for _, gen := range gens {
				ref := api.Ref{Kind: kind, Place: place, Gen: gen}
				if ref == own {
					b.gets(t, "own", ref, text(1, 70))
					continue
				}
				b.whole(t, "another name", ref, make([]bool, 4))
				b.lost(t, "another name", ref)
			}
		}
	}
}

// Rules

// R3: what is handed in isn't changed, and may be changed behind the call; so may what is answered.
func TestMemory(t *testing.T) {
	for _, long := range []int{1, 44, 60, 88} {
		ref, name := api.Ref{Kind: 3, Place: 1, Gen: 8}, fmt.Sprint(long, " bytes")
		b := made(t, size{2, 2}, 2)
		x := text(7, long)
		behind := append(bytes.Clone(x), 1, 2, 3)
		room := behind[:long:len(behind)]
		b.puts(t, name, ref, room, 4)
		if !bytes.Equal(behind, append(bytes.Clone(x), 1, 2, 3)) {
			t.Errorf("%s: Put changed its text, or what stands behind it", name)
		}
		clear(behind)
		b.gets(t, name, ref, x)
		was := b.shot()
		got, _ := stripe.Get(b.a, b.c, ref)
		other, _ := stripe.Get(b.a, b.c, ref)
		clear(got[:cap(got)])
		if !bytes.Equal(other, x) {
			t.Errorf("%s: two answers share bytes", name)
		}
		list := stripe.Whole(b.a, b.c, ref)
		clear(list[:cap(list)])
		b.unchanged(t, name, was)
		b.whole(t, name, ref, each(4, true))
		b.gets(t, name, ref, x)
	}
}

// Looks change nothing, and the same call answers the same.
func TestLooksChangeNothing(t *testing.T) {
	for _, z := range small() {
		ref, x := api.Ref{Kind: 3, Place: 1, Gen: 8}, text(2, 44*z.k)
		b := laid(t, z, ref, x)
		rots(3).to(b, ref, 0)
		b.puts(t, b.name(), api.Ref{Kind: 1, Place: 0, Gen: 1}, nil, b.n())
		was := b.shot()
		whole := append([]bool{false}, each(b.n()-1, true)...)
		for range 3 {
			b.gets(t, b.name(), ref, x)
			b.whole(t, b.name(), ref, whole)
			b.gets(t, b.name(), api.Ref{Kind: 1, Place: 0, Gen: 1}, nil)
		}
		b.unchanged(t, b.name(), was)
	}
}

// R4: drives that were made by two calls know nothing of one another, whichever coder writes to them.
func TestTwoArrays(t *testing.T) {
	one, two := made(t, size{2, 1}, 2), made(t, size{2, 1}, 2)
	ref := api.Ref{Kind: 3, Place: 1, Gen: 8}
	was := two.shot()
	one.puts(t, "one", ref, text(1, 80), 3)
	two.unchanged(t, "the other one", was)
	two.lost(t, "the other one", ref)
	two.puts(t, "two", ref, text(2, 80), 3)
	one.gets(t, "one", ref, text(1, 80))
	two.gets(t, "two", ref, text(2, 80))
	one.c, two.c = two.c, one.c
	one.gets(t, "the other coder", ref, text(1, 80))
}

// R1: no call panics, whatever it is handed.
func TestNothingPanics(t *testing.T) {
	f := field.New()
	dead := array.New(3, 2)
	for d := range 3 {
		dead.Fail(d)
	}
	arrays := []*array.Array{nil, {}, array.New(1, 1), array.New(2, 600), array.New(3, 2), dead, array.New(255, 1)}
	coders := []*code.Coder{nil, {}, code.New(f, 1, 1), code.New(f, 2, 1), code.New(f, 1, 2), code.New(f, 254, 1), code.New(f, 1, 254), code.New(nil, 1, 1), code.New(f, 0, 0)}
	places := []int{math.MinInt, -1, 0, 1, 599, 600, math.MaxInt}
	for _, a := range arrays {
		for _, c := range coders {
			stripe.Room(c)
			for _, kind := range []uint8{0, 1, 4, 5, 255} {
				for _, place := range places {
					for _, gen := range []uint64{0, mostGen} {
						ref := api.Ref{Kind: kind, Place: place, Gen: gen}
						for _, long := range []int{0, 44, 45, 11176, 70000} {
							stripe.Put(a, c, ref, make([]byte, long))
							stripe.Whole(a, c, ref)
							stripe.Get(a, c, ref)
							stripe.Mend(a, c, ref)
						}
					}
				}
			}
		}
	}
}
