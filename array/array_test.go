package array_test

import (
	"bytes"
	"fmt"
	"maps"
	"math"
	"reflect"
	"slices"
	"testing"

	"ciborium/api"
	"ciborium/array"
	"ciborium/drive"
)

// noughts are the bytes of a sector that nobody wrote.
func noughts() []byte { return make([]byte, 64) }

// text answers 64 bytes, each unlike those of another seed at its place.
func text(seed int) []byte {
	b := make([]byte, 64)
	for i := range b {
		b[i] = byte(seed + 31*i)
	}
	return b
}

// made answers an array that there must be.
func made(t *testing.T, n, sectors int) *array.Array {
	t.Helper()
	a := array.New(n, sectors)
	if a == nil {
		t.Fatalf("no array of %d drives of %d sectors", n, sectors)
	}
	return a
}

// beside is an array, and drives that lie side by side without one.
type beside struct {
	a      *array.Array
	drives []*drive.Drive
}

func newBeside(t *testing.T, n, sectors int) beside {
	t.Helper()
	x := beside{a: made(t, n, sectors)}
	for range n {
		x.drives = append(x.drives, drive.New(sectors))
	}
	return x
}

// copy answers copies of both.
func (x beside) copy() beside {
	c := beside{a: x.a.Copy()}
	for _, d := range x.drives {
		c.drives = append(c.drives, d.Copy())
	}
	return c
}

// at answers a drive that lies there, or why there is none.
func (x beside) at(d int) (*drive.Drive, api.Errno) {
	if d < 0 || d >= len(x.drives) {
		return nil, api.ErrArg
	}
	return x.drives[d], api.OK
}

// step is something that is done to both, with their answers.
type step struct {
	name string
	to   func(x beside) (got, want int)
}

// asked is a step that asks one drive by its number.
func asked(name string, d int, of func(a *array.Array) api.Errno, to func(one *drive.Drive) api.Errno) step {
	return step{fmt.Sprint(name, " of drive ", d), func(x beside) (got, want int) {
		one, e := x.at(d)
		if e == api.OK {
			e = to(one)
		}
		return int(of(x.a)), int(e)
	}}
}

func write(d, at int, b []byte) step {
	return asked(fmt.Sprint("Write ", at, " of ", len(b), " bytes"), d,
		func(a *array.Array) api.Errno { return a.Write(d, at, b) },
		func(one *drive.Drive) api.Errno { return one.Write(at, b) })
}

func rot(d, at, off int, mask uint32) step {
	return asked(fmt.Sprintf("Rot %d, %d, %x", at, off, mask), d,
		func(a *array.Array) api.Errno { return a.Rot(d, at, off, mask) },
		func(one *drive.Drive) api.Errno { return one.Rot(at, off, mask) })
}

func fail(d int) step {
	return asked("Fail", d,
		func(a *array.Array) api.Errno { return a.Fail(d) },
		func(one *drive.Drive) api.Errno { one.Fail(); return api.OK })
}

func replace(d int) step {
	return asked("Replace", d,
		func(a *array.Array) api.Errno { return a.Replace(d) },
		func(one *drive.Drive) api.Errno { one.Replace(); return api.OK })
}

func put(at int, rows ...[]byte) step {
	return step{fmt.Sprint("PutRow ", at, " of ", len(rows), " rows"), func(x beside) (got, want int) {
		for d, one := range x.drives {
			if d < len(rows) && len(rows[d]) > 0 && one.Write(at, rows[d]) == api.OK {
				want++
			}
		}
		return x.a.PutRow(at, rows), want
	}}
}

func flush() step {
	return step{"Flush", func(x beside) (got, want int) {
		for _, one := range x.drives {
			if one.Flush() == api.OK {
				want++
			}
		}
		return x.a.Flush(), want
	}}
}

func crash(keep ...[]bool) step {
	return step{fmt.Sprint("Crash ", keep), func(x beside) (got, want int) {
		for d, one := range x.drives {
			if d < len(keep) {
				one.Crash(keep[d])
			} else {
				one.Crash(nil)
			}
		}
		x.a.Crash(keep)
		return 0, 0
	}}
}

// does does a step to both, and tells whether both answer the same.
func (x beside) does(t *testing.T, name string, s step) bool {
	t.Helper()
	got, want := s.to(x)
	if got != want {
		t.Errorf("%s, %s = %d, want %d", name, s.name, got, want)
	}
	return got == want
}

// all does steps to both, and holds one against the other behind each of them.
func (x beside) all(t *testing.T, name string, steps ...step) {
	t.Helper()
	for i, s := range steps {
		if !x.does(t, name, s) || !x.alike(t, fmt.Sprint(name, ", behind step ", i, " (", s.name, ")")) {
			return
		}
	}
}

// one tells what goes wrong with all that is asked of one drive, or of none, at a sector.
func (x beside) one(t *testing.T, name string, d, at int) bool {
	t.Helper()
	alone, refusal := x.at(d)
	var text, stored []byte
	rotten := false
	if refusal == api.OK {
		text, refusal = alone.Read(at)
		stored, rotten = alone.Stored(at), alone.Rotten(at)
	}
	ok := true
	if b, e := x.a.Read(d, at); e != refusal || !bytes.Equal(b, text) {
		t.Errorf("%s: Read %d of drive %d = %v, %d, want %v, %d", name, at, d, b, e, text, refusal)
		ok = false
	}
	if b, is := x.a.Stored(d, at), x.a.Rotten(d, at); !bytes.Equal(b, stored) || is != rotten {
		t.Errorf("%s: Stored %d of drive %d = %v, Rotten %v, want %v, %v", name, at, d, b, is, stored, rotten)
		ok = false
	}
	return ok
}

// row tells what goes wrong with a row.
func (x beside) row(t *testing.T, name string, at int) bool {
	t.Helper()
	var want [][]byte
	for _, one := range x.drives {
		b, _ := one.Read(at)
		want = append(want, b)
	}
	got := x.a.Row(at)
	if !slices.EqualFunc(got, want, bytes.Equal) {
		t.Errorf("%s: Row %d = %v, want %v", name, at, got, want)
		return false
	}
	return true
}

// seen tells what goes wrong with all that an array tells, also of drives and sectors that there aren't.
func (x beside) seen(t *testing.T, name string) bool {
	t.Helper()
	sectors := x.drives[0].Sectors()
	alive := 0
	ok := true
	for d := -1; d <= len(x.drives); d++ {
		waits, dead := 0, true
		if one, e := x.at(d); e == api.OK {
			waits, dead = one.Waits(), one.Dead()
		}
		if !dead {
			alive++
		}
		if x.a.Waits(d) != waits || x.a.Dead(d) != dead {
			t.Errorf("%s: of drive %d Waits %d, Dead %v, want %d, %v", name, d, x.a.Waits(d), x.a.Dead(d), waits, dead)
			ok = false
		}
		for at := -1; at <= sectors; at++ {
			ok = x.one(t, name, d, at) && ok
		}
	}
	for at := -1; at <= sectors; at++ {
		ok = x.row(t, name, at) && ok
	}
	if x.a.N() != len(x.drives) || x.a.Sectors() != sectors || x.a.Alive() != alive {
		t.Errorf("%s: N %d, Sectors %d, Alive %d, want %d, %d, %d", name, x.a.N(), x.a.Sectors(), x.a.Alive(), len(x.drives), sectors, alive)
		ok = false
	}
	return ok
}

// alike tells what goes wrong with all that an array tells, and with each of the writes that wait: copies tell them, that keep the i-th alone at each drive.
func (x beside) alike(t *testing.T, name string) bool {
	t.Helper()
	if !x.seen(t, name) {
		return false
	}
	most := 0
	for _, one := range x.drives {
		most = max(most, one.Waits())
	}
	for i := range most {
		keep := make([]bool, i+1)
		keep[i] = true
		lists := slices.Repeat([][]bool{keep}, len(x.drives))
		then := x.copy()
		if !then.does(t, name, crash(lists...)) || !then.seen(t, fmt.Sprint(name, ", if write ", i, " alone is kept")) {
			return false
		}
	}
	return true
}

// wants tells what goes wrong where a row is to be so.
func wants(t *testing.T, name string, a *array.Array, at int, want ...[]byte) {
	t.Helper()
	if got := a.Row(at); !slices.EqualFunc(got, want, bytes.Equal) {
		t.Errorf("%s: Row %d = %v, want %v", name, at, got, want)
	}
}

// waiting tells what goes wrong where so many writes are to wait at each drive.
func waiting(t *testing.T, name string, a *array.Array, want ...int) {
	t.Helper()
	var got []int
	for d := range a.N() {
		got = append(got, a.Waits(d))
	}
	if !slices.Equal(got, want) {
		t.Errorf("%s: Waits = %v, want %v", name, got, want)
	}
}

// equal tells what goes wrong where two numbers are to be the same.
func equal[T comparable](t *testing.T, name string, got, want T) {
	t.Helper()
	if got != want {
		t.Errorf("%s = %v, want %v", name, got, want)
	}
}

// The chapter's example

func TestExample(t *testing.T) {
	for dead := range 3 {
		a := made(t, 3, 4)
		equal(t, "Fail", a.Fail(dead), api.OK)
		equal(t, "PutRow of three", a.PutRow(2, [][]byte{text(1), text(2), text(3)}), 2)
		want := [][]byte{text(1), text(2), text(3)}
		want[dead] = nil
		wants(t, fmt.Sprint("drive ", dead, " dead"), a, 2, want...)
	}
}

// P10.1

func TestNew(t *testing.T) {
	ns := []int{math.MinInt, -255, -1, 0, 1, 2, 254, 255, 256, 257, 1 << 20, math.MaxInt}
	sizes := []int{math.MinInt, -1, 0, 1, 2, 599, 600, 601, 1 << 20, math.MaxInt}
	for _, n := range ns {
		for _, sectors := range sizes {
			a := array.New(n, sectors)
			if n < 1 || n > 255 || sectors < 1 || sectors > 600 {
				if a != nil {
					t.Errorf("an array of %d drives of %d sectors", n, sectors)
				}
				equal(t, "N of none", a.N(), 0)
				equal(t, "Sectors of none", a.Sectors(), 0)
				continue
			}
			if a == nil {
				t.Fatalf("no array of %d drives of %d sectors", n, sectors)
			}
			equal(t, "N", a.N(), n)
			equal(t, "Sectors", a.Sectors(), sectors)
			equal(t, "Alive", a.Alive(), n)
		}
	}
}

func TestEachNumberOfDrives(t *testing.T) {
	for n := 1; n <= 255; n++ {
		a := made(t, n, 1)
		equal(t, "N", a.N(), n)
		equal(t, "Dead of the last", a.Dead(n-1), false)
		equal(t, "Dead of the one behind it", a.Dead(n), true)
	}
	for sectors := 1; sectors <= 600; sectors++ {
		equal(t, "Sectors", made(t, 1, sectors).Sectors(), sectors)
	}
}

func TestNewArrayHasNoughts(t *testing.T) {
	for _, n := range []int{1, 2, 3, 254, 255} {
		x := newBeside(t, n, 3)
		for at := range 3 {
			wants(t, "a new array", x.a, at, slices.Repeat([][]byte{noughts()}, n)...)
			for d := range n {
				if b := x.a.Stored(d, at); !bytes.Equal(b, noughts()) || x.a.Rotten(d, at) {
					t.Errorf("sector %d of drive %d of a new array = %v, rotten %v", at, d, b, x.a.Rotten(d, at))
				}
			}
		}
		waiting(t, "a new array", x.a, make([]int, n)...)
		for d := range n {
			equal(t, "Dead of a new drive", x.a.Dead(d), false)
		}
		equal(t, "Alive of a new array", x.a.Alive(), n)
		x.alike(t, "a new array")
	}
	a := made(t, 2, 600)
	for at := range 600 {
		wants(t, "of 600 sectors", a, at, noughts(), noughts())
	}
	wants(t, "behind the last", a, 600, nil, nil)
}

func TestOneDrive(t *testing.T) {
	for _, n := range []int{1, 3} {
		for d := range n {
			x := newBeside(t, n, 3)
			x.all(t, "one drive", write(d, 0, text(1)), write(d, 1, text(2)), write(d, 0, text(3)), write(d, -1, text(4)), write(d, 3, text(4)),
				write(d, 0, nil), write(d, 0, text(4)[:63]), write(d, 0, append(text(4), 0)), flush(), write(d, 0, text(5)), rot(d, 0, 60, 0x01020304), rot(d, 0, 60, 1),
				rot(d, 1, 61, 1), rot(d, 1, 0, 0), rot(d, -1, 0, 1), rot(d, 3, 0, 1), crash(), fail(d), write(d, 0, text(6)), rot(d, 0, 0, 1),
				fail(d), flush(), crash(), replace(d), write(d, 2, text(7)), rot(d, 2, 1, 0xff00), flush(), replace(d), fail(d), replace(d), write(d, 1, text(8)))
			equal(t, "Waits", x.a.Waits(d), 1)
			if b, e := x.a.Read(d, 1); e != api.OK || !bytes.Equal(b, text(8)) {
				t.Errorf("Read behind all = %v, %d", b, e)
			}
		}
	}
}

func TestOneDrivesAnswers(t *testing.T) {
	a := made(t, 3, 2)
	equal(t, "Write", a.Write(1, 0, text(1)), api.OK)
	equal(t, "Write of 63 bytes", a.Write(1, 0, text(1)[:63]), api.ErrArg)
	equal(t, "Write of 65 bytes", a.Write(1, 0, append(text(1), 0)), api.ErrArg)
	equal(t, "Write to no sector", a.Write(1, 2, text(1)), api.ErrArg)
	equal(t, "Flush", a.Flush(), 3)
	equal(t, "Rot", a.Rot(1, 0, 7, 0x0100), api.OK)
	equal(t, "second Rot", a.Rot(1, 0, 7, 0x0100), api.ErrRotten)
	equal(t, "Rot by nothing", a.Rot(1, 1, 7, 0), api.ErrArg)
	equal(t, "Rotten", a.Rotten(1, 0), true)
	equal(t, "Rotten beside it", a.Rotten(1, 1) || a.Rotten(0, 0) || a.Rotten(2, 0), false)
	want := text(1)
	want[8] ^= 1
	if b := a.Stored(1, 0); !bytes.Equal(b, want) {
		t.Errorf("Stored = %v, want %v", b, want)
	}
	equal(t, "Fail", a.Fail(1), api.OK)
	equal(t, "Write to a dead drive", a.Write(1, 2, nil), api.ErrDead)
	equal(t, "Rot of a dead drive", a.Rot(1, 2, 0, 0), api.ErrDead)
	equal(t, "Fail of a dead drive", a.Fail(1), api.OK)
	equal(t, "Replace", a.Replace(1), api.OK)
	equal(t, "Replace of a live drive", a.Replace(1), api.OK)
	wants(t, "replaced", a, 0, noughts(), noughts(), noughts())
}

// strangers are numbers of drives that an array of so many doesn't have.
func strangers(n int) []int {
	return []int{math.MinInt, -256, -n - 1, -n, -1, n, n + 1, 2 * n, 255, 256, math.MaxInt}
}

// busy answers an array of n drives of three sectors, with what is stored, rotten, and waits.
func busy(t *testing.T, n int) beside {
	t.Helper()
	x := newBeside(t, n, 3)
	for d := range n {
		for at := range 3 {
			x.does(t, "busy", write(d, at, text(10*d+at)))
		}
	}
	x.does(t, "busy", flush())
	for d := range n {
		x.does(t, "busy", rot(d, d%3, 5+d, uint32(1+d)))
		x.does(t, "busy", write(d, d%3, text(100+d)))
		x.does(t, "busy", write(d, (d+1)%3, text(120+d)))
		x.does(t, "busy", write(d, d%3, text(140+d)))
	}
	x.alike(t, "busy")
	return x
}

// refusesStranger tells what goes wrong where a drive that there isn't is asked.
func refusesStranger(t *testing.T, a *array.Array, d int, refusal api.Errno) {
	t.Helper()
	name := fmt.Sprint(" of drive ", d, " that there isn't")
	for _, at := range []int{math.MinInt, -1, 0, 1, 3, 600, math.MaxInt} {
		b, e := a.Read(d, at)
		equal(t, fmt.Sprint("Read ", at, name), e, refusal)
		equal(t, fmt.Sprint("bytes of Read ", at, name), len(b), 0)
		equal(t, fmt.Sprint("bytes of Stored ", at, name), len(a.Stored(d, at)), 0)
		equal(t, fmt.Sprint("Rotten ", at, name), a.Rotten(d, at), false)
		for _, b := range [][]byte{nil, text(1)[:63], text(1)} {
			equal(t, fmt.Sprint("Write ", at, " of ", len(b), " bytes", name), a.Write(d, at, b), refusal)
		}
		for _, off := range []int{-1, 0, 60, 61} {
			for _, mask := range []uint32{0, 1} {
				equal(t, fmt.Sprint("Rot ", at, ", ", off, name), a.Rot(d, at, off, mask), refusal)
			}
		}
	}
	equal(t, "Waits"+name, a.Waits(d), 0)
	equal(t, "Dead"+name, a.Dead(d), true)
	equal(t, "Fail"+name, a.Fail(d), refusal)
	equal(t, "Replace"+name, a.Replace(d), refusal)
}

func TestDriveThatThereIsNot(t *testing.T) {
	for _, n := range []int{1, 2, 3, 5} {
		x := busy(t, n)
		for _, d := range strangers(n) {
			refusesStranger(t, x.a, d, api.ErrArg)
			x.alike(t, fmt.Sprint("behind what was asked of drive ", d))
		}
		for d := range n {
			x.does(t, "all die", fail(d))
		}
		for _, d := range strangers(n) {
			refusesStranger(t, x.a, d, api.ErrArg)
		}
		x.alike(t, "all dead")
	}
	a := made(t, 255, 1)
	for _, d := range []int{-1, 255, 256, math.MaxInt, math.MinInt} {
		refusesStranger(t, a, d, api.ErrArg)
	}
	equal(t, "Alive", a.Alive(), 255)
}

// P10.2: Row

func TestRow(t *testing.T) {
	a := made(t, 3, 2)
	equal(t, "PutRow", a.PutRow(0, [][]byte{text(1), text(2), text(3)}), 3)
	equal(t, "Flush", a.Flush(), 3)
	wants(t, "stored", a, 0, text(1), text(2), text(3))
	equal(t, "Write", a.Write(1, 0, text(4)), api.OK)
	wants(t, "one waits", a, 0, text(1), text(4), text(3))
	wants(t, "the other sector", a, 1, noughts(), noughts(), noughts())
	equal(t, "Fail", a.Fail(0), api.OK)
	wants(t, "the first dead", a, 0, nil, text(4), text(3))
	equal(t, "Fail", a.Fail(2), api.OK)
	wants(t, "two dead", a, 0, nil, text(4), nil)
	wants(t, "two dead, the other sector", a, 1, nil, noughts(), nil)
	a.Crash(nil)
	wants(t, "crashed", a, 0, nil, text(2), nil)
	equal(t, "Rot", a.Rot(1, 0, 0, 1), api.OK)
	want := text(2)
	want[0] ^= 1
	wants(t, "rotten", a, 0, nil, want, nil)
	equal(t, "Fail", a.Fail(1), api.OK)
	wants(t, "all dead", a, 0, nil, nil, nil)
	equal(t, "Replace", a.Replace(2), api.OK)
	wants(t, "one new", a, 0, nil, nil, noughts())
}

func TestRowOfStrangeSectors(t *testing.T) {
	for _, n := range []int{1, 3, 255} {
		x := newBeside(t, n, 2)
		x.does(t, "a row", put(1, slices.Repeat([][]byte{text(1)}, n)...))
		for _, at := range []int{math.MinInt, -600, -1, 2, 3, 600, math.MaxInt} {
			wants(t, "no sector", x.a, at, make([][]byte, n)...)
		}
		x.alike(t, "behind rows of no sectors")
	}
}

// P10.2: PutRow

func TestPutRowOfAnyNumber(t *testing.T) {
	for _, n := range []int{1, 2, 3, 7} {
		for many := range n + 4 {
			var rows [][]byte
			for i := range many {
				rows = append(rows, text(1+i))
			}
			x := newBeside(t, n, 2)
			equal(t, fmt.Sprint("PutRow of ", many, " rows to ", n), x.a.PutRow(1, rows), min(many, n))
			for d := range n {
				equal(t, "Waits", x.a.Waits(d), min(1, max(0, many-d)))
				want := noughts()
				if d < many {
					want = text(1 + d)
				}
				if b, e := x.a.Read(d, 1); e != api.OK || !bytes.Equal(b, want) {
					t.Errorf("Read of drive %d behind %d rows = %v, %d", d, many, b, e)
				}
				if b := x.a.Stored(d, 1); !bytes.Equal(b, noughts()) {
					t.Errorf("Stored of drive %d that only waits = %v", d, b)
				}
			}
			wants(t, "the other sector", x.a, 0, slices.Repeat([][]byte{noughts()}, n)...)
			newBeside(t, n, 2).all(t, "rows", put(1, rows...), put(0, rows...), flush(), put(1, rows...))
		}
	}
	a := made(t, 255, 1)
	equal(t, "PutRow of 300 rows", a.PutRow(0, slices.Repeat([][]byte{text(9)}, 300)), 255)
	wants(t, "all", a, 0, slices.Repeat([][]byte{text(9)}, 255)...)
}

func TestPutRowOfNone(t *testing.T) {
	roomy := [][]byte{text(1), text(2), text(3)}
	for _, rows := range [][][]byte{nil, {}, roomy[:0], {nil}, {nil, nil, nil}, {{}, {}, {}}, {nil, {}, text(1)[:0]}, make([][]byte, 300)} {
		x := busy(t, 3)
		equal(t, "PutRow of nothing", x.a.PutRow(0, rows), 0)
		equal(t, "PutRow of nothing, to no sector", x.a.PutRow(-1, rows), 0)
		x.alike(t, "behind nothing")
	}
}

func TestPutRowOfSome(t *testing.T) {
	kinds := [][]byte{nil, {}, text(1), text(2)[:63], append(text(3), 1), {0}, text(4)[:32], noughts(), make([]byte, 128)}
	for i, first := range kinds {
		for j, second := range kinds {
			for k, third := range kinds {
				rows := [][]byte{first, second, third, text(5)}
				x := newBeside(t, 3, 1)
				want, waits := 0, make([]int, 3)
				for d, row := range rows[:3] {
					if len(row) == 64 {
						want++
						waits[d] = 1
					}
				}
				name := fmt.Sprint("rows ", i, ", ", j, ", ", k)
				equal(t, name+": PutRow", x.a.PutRow(0, rows), want)
				waiting(t, name, x.a, waits...)
				newBeside(t, 3, 1).all(t, name, put(0, rows...))
			}
		}
	}
}

func TestPutRowOfStrangeSectors(t *testing.T) {
	for _, at := range []int{math.MinInt, -1, 3, 4, 600, math.MaxInt} {
		x := busy(t, 3)
		equal(t, fmt.Sprint("PutRow ", at), x.a.PutRow(at, [][]byte{text(1), text(2), text(3)}), 0)
		x.alike(t, "behind no sector")
	}
	for at := range 3 {
		busy(t, 3).all(t, "a sector that there is", put(at, text(1), text(2), text(3)), flush())
	}
}

func TestPutRowToDeadDrives(t *testing.T) {
	for bits := range 1 << 4 {
		x := newBeside(t, 4, 2)
		want, waits := 4, []int{1, 1, 1, 1}
		row := [][]byte{text(1), text(2), text(3), text(4)}
		for d := range 4 {
			if bits>>d&1 == 1 {
				x.does(t, "dead", fail(d))
				want--
				waits[d], row[d] = 0, nil
			}
		}
		name := fmt.Sprintf("dead %04b", bits)
		equal(t, name+": PutRow", x.a.PutRow(0, [][]byte{text(1), text(2), text(3), text(4)}), want)
		waiting(t, name, x.a, waits...)
		wants(t, name, x.a, 0, row...)
		equal(t, name+": PutRow without bytes", x.a.PutRow(0, [][]byte{nil, nil, nil, nil}), 0)
		equal(t, name+": PutRow of one", x.a.PutRow(0, [][]byte{nil, nil, text(5)}), 1-bits>>2&1)
	}
}

// P10.2: Flush

func TestFlush(t *testing.T) {
	for bits := range 1 << 4 {
		x := busy(t, 4)
		alive := 4
		for d := range 4 {
			if bits>>d&1 == 1 {
				x.does(t, "dead", fail(d))
				alive--
			}
		}
		name := fmt.Sprintf("dead %04b", bits)
		equal(t, name+": Flush", x.a.Flush(), alive)
		waiting(t, name, x.a, 0, 0, 0, 0)
		equal(t, name+": Flush where nothing waits", x.a.Flush(), alive)
		for d := range 4 {
			if bits>>d&1 == 1 {
				continue
			}
			if b := x.a.Stored(d, d%3); !bytes.Equal(b, text(140+d)) || x.a.Rotten(d, d%3) {
				t.Errorf("%s: Stored of drive %d = %v, Rotten %v", name, d, b, x.a.Rotten(d, d%3))
			}
		}
		for d := range 4 {
			equal(t, "Replace", x.a.Replace(d), api.OK)
		}
		equal(t, name+": Flush of new drives", x.a.Flush(), 4)
	}
	equal(t, "Flush of 255", made(t, 255, 1).Flush(), 255)
}

func TestFlushOfSomeThatWait(t *testing.T) {
	a := made(t, 3, 1)
	equal(t, "Write", a.Write(2, 0, text(1)), api.OK)
	equal(t, "Flush where one waits", a.Flush(), 3)
	waiting(t, "flushed", a, 0, 0, 0)
	a.Crash(nil)
	wants(t, "flushed, and crashed", a, 0, noughts(), noughts(), text(1))
}

// P10.2: Crash

func TestCrashByItsOwnList(t *testing.T) {
	a := made(t, 4, 2)
	for i := range 3 {
		equal(t, "PutRow", a.PutRow(0, [][]byte{text(i), text(10 + i), text(20 + i), text(30 + i)}), 4)
	}
	a.Crash([][]bool{{true, false, false}, {false, true, false}, {true, true, true}, {}})
	waiting(t, "crashed", a, 0, 0, 0, 0)
	wants(t, "each by its own list", a, 0, text(0), text(11), text(22), noughts())
}

// keeps answers lists of lists, among them nil and empty ones, fewer and more than there are drives.
func keeps() [][][]bool {
	yes, no := []bool{true, true, true}, []bool{false, false, false}
	return [][][]bool{
		nil, {}, {nil}, {{}}, {nil, nil, nil}, {{}, nil, {}},
		{yes}, {yes, yes}, {yes, yes, yes}, {yes, yes, yes, yes, yes}, {nil, yes}, {nil, nil, yes}, {nil, nil, nil, yes}, {{}, yes, {}}, {no, yes, no}, {yes, no, yes},
		{{true}, {false, true}, {false, false, true}}, {{false, false, true}, {false, true}, {true}},
		{{true, false, true}, nil, {false, true, true, true, true, true}}, {{true, true}, {true}, {}},
		slices.Repeat([][]bool{yes}, 300), {slices.Repeat([]bool{true}, 300)},
		[][]bool{yes, yes, yes}[:1], {yes[:1], yes[:2], yes[:0]},
	}
}

func TestCrash(t *testing.T) {
	for i, keep := range keeps() {
		for bits := range 1 << 3 {
			x := busy(t, 3)
			for d := range 3 {
				if bits>>d&1 == 1 {
					x.does(t, "dead", fail(d))
				}
			}
			x.all(t, fmt.Sprintf("list %d, dead %03b", i, bits), crash(keep...), crash(keep...), flush())
			waiting(t, "crashed", x.a, 0, 0, 0)
		}
	}
}

func TestCrashOfNoList(t *testing.T) {
	for _, keep := range [][][]bool{nil, {}, {nil, nil}, [][]bool{{true, true, true}, {true, true, true}}[:0]} {
		x := busy(t, 2)
		x.a.Crash(keep)
		waiting(t, "nothing kept", x.a, 0, 0)
		wants(t, "nothing kept", x.a, 2, text(2), text(12))
		equal(t, "Rotten", x.a.Rotten(0, 0), true)
	}
}

func TestCrashBeyondKeep(t *testing.T) {
	a := made(t, 3, 1)
	a.PutRow(0, [][]byte{text(1), text(2), text(3)})
	a.Crash([][]bool{{true}, {true}})
	wants(t, "two of three", a, 0, text(1), text(2), noughts())
	a.PutRow(0, [][]byte{text(4), text(5), text(6)})
	a.Crash([][]bool{nil, {}, {true}, {true}})
	wants(t, "the last of three", a, 0, text(1), text(2), text(6))
}

// P10.2: Alive

func TestAlive(t *testing.T) {
	for _, n := range []int{1, 2, 5, 255} {
		a := made(t, n, 1)
		for d := range n {
			equal(t, "Alive", a.Alive(), n-d)
			a.Fail(d)
			equal(t, "Alive behind Fail", a.Alive(), n-d-1)
			a.Fail(d)
			equal(t, "Alive behind Fail twice", a.Alive(), n-d-1)
			equal(t, "Dead", a.Dead(d), true)
		}
		a.Crash(nil)
		a.Flush()
		equal(t, "Alive of dead ones", a.Alive(), 0)
		equal(t, "N of dead ones", a.N(), n)
		equal(t, "Sectors of dead ones", a.Sectors(), 1)
		for d := n - 1; d >= 0; d-- {
			a.Replace(d)
			equal(t, "Alive behind Replace", a.Alive(), n-d)
			a.Replace(d)
			equal(t, "Alive behind Replace twice", a.Alive(), n-d)
			equal(t, "Dead", a.Dead(d), false)
		}
		a.Fail(-1)
		a.Fail(n)
		equal(t, "Alive behind Fail of none", a.Alive(), n)
	}
}

// R2: the first error

func TestFirstError(t *testing.T) {
	x := busy(t, 2)
	x.does(t, "dead", fail(0))
	for _, s := range []struct {
		name string
		got  api.Errno
		want api.Errno
	}{
		{"Write of 63 bytes to no sector of a dead drive", x.a.Write(0, 9, text(1)[:63]), api.ErrDead},
		{"Write to no sector of no drive", x.a.Write(2, 9, text(1)), api.ErrArg},
		{"Rot by nothing of no sector of a dead drive", x.a.Rot(0, 9, 0, 0), api.ErrDead},
		{"Rot by nothing of a rotten sector", x.a.Rot(1, 1, 0, 0), api.ErrArg},
		{"Rot of a rotten sector", x.a.Rot(1, 1, 0, 1), api.ErrRotten},
		{"Rot of no drive", x.a.Rot(2, 1, 0, 1), api.ErrArg},
	} {
		equal(t, s.name, s.got, s.want)
	}
	_, e := x.a.Read(0, 9)
	equal(t, "Read of no sector of a dead drive", e, api.ErrDead)
	_, e = x.a.Read(2, 0)
	equal(t, "Read of no drive", e, api.ErrArg)
	x.alike(t, "what was refused")
}

// P10.3

// nobodys tells what goes wrong with the answers of an array that nobody made.
func nobodys(t *testing.T, name string, a *array.Array) {
	t.Helper()
	equal(t, name+": N", a.N(), 0)
	equal(t, name+": Sectors", a.Sectors(), 0)
	equal(t, name+": Alive", a.Alive(), 0)
	equal(t, name+": Flush", a.Flush(), 0)
	for _, at := range []int{math.MinInt, -1, 0, 1, math.MaxInt} {
		equal(t, name+": rows of Row", len(a.Row(at)), 0)
		for _, rows := range [][][]byte{nil, {nil}, {text(1)}, {text(1), text(2)}} {
			equal(t, name+": PutRow", a.PutRow(at, rows), 0)
		}
	}
	for _, d := range []int{math.MinInt, -1, 0, 1, 255, math.MaxInt} {
		refusesStranger(t, a, d, api.ErrNil)
	}
}

func TestNobodysArray(t *testing.T) {
	zero := &array.Array{}
	none := map[string]*array.Array{"nil": nil, "zero": zero, "a copy of nil": (*array.Array)(nil).Copy(), "a copy of a zero one": zero.Copy(), "of no drives": array.New(0, 1), "of no sectors": array.New(1, 0)}
	for _, name := range slices.Sorted(maps.Keys(none)) {
		a := none[name]
		nobodys(t, name, a)
		for _, keep := range keeps() {
			a.Crash(keep)
		}
		nobodys(t, name+", behind Crash", a)
		a.Fail(0)
		nobodys(t, name+", behind Fail", a)
		a.Replace(0)
		nobodys(t, name+", behind Replace", a)
		nobodys(t, name+", copied", a.Copy())
	}
	if !reflect.DeepEqual(zero, &array.Array{}) {
		t.Error("an array that nobody made was changed")
	}
	if c := zero.Copy(); c == nil || c == zero || (*array.Array)(nil).Copy() != nil {
		t.Error("a copy of a zero array is nil or that array, or one of nil isn't nil")
	}
}

// states are steps to arrays of three drives of two sectors that are unlike one another.
func states() map[string][]step {
	return map[string][]step{
		"new":      nil,
		"stored":   {put(0, text(1), text(2), text(3)), put(1, text(4)), flush()},
		"waiting":  {put(0, text(1), text(2), text(3)), flush(), put(0, text(4), nil, text(5)), write(1, 1, text(6)), put(0, text(7), text(8))},
		"rotten":   {put(0, text(1), text(2), text(3)), flush(), rot(0, 0, 0, 1), rot(2, 1, 60, math.MaxUint32), write(0, 0, text(4))},
		"crashed":  {put(0, text(1), text(2), text(3)), crash([]bool{true}, nil, []bool{true}), write(1, 1, text(4))},
		"dead":     {put(0, text(1), text(2), text(3)), flush(), put(1, text(4), text(5), text(6)), fail(1)},
		"all dead": {put(0, text(1), text(2), text(3)), fail(0), fail(1), fail(2)},
		"replaced": {put(0, text(1), text(2), text(3)), flush(), fail(0), replace(0), replace(2), write(0, 1, text(4))},
	}
}

// further are steps that change arrays.
func further() map[string][]step {
	return map[string][]step{
		"writes":   {write(0, 0, text(31)), write(2, 1, text(32)), write(1, 0, text(33))},
		"rows":     {put(1, text(34), text(35), text(36)), put(0, nil, text(37))},
		"flush":    {flush()},
		"crash":    {crash([]bool{true, true}, nil, []bool{false, true})},
		"no crash": {crash()},
		"fail":     {fail(0), fail(2)},
		"replace":  {replace(1), replace(2)},
		"rot":      {rot(0, 1, 10, 0x0a0b0c0d), rot(1, 0, 11, 1), rot(2, 0, 12, 2)},
		"many":     {put(1, text(38), text(39)), rot(1, 1, 3, 3), flush(), fail(2), rot(1, 1, 4, 4), write(0, 1, text(40)), crash([]bool{true})},
	}
}

func TestCopy(t *testing.T) {
	for _, state := range slices.Sorted(maps.Keys(states())) {
		for _, done := range slices.Sorted(maps.Keys(further())) {
			x := newBeside(t, 3, 2)
			x.all(t, state, states()[state]...)
			more := further()[done]
			c := x.copy()
			name := fmt.Sprint(state, ", ", done)
			c.alike(t, name+": the copy")
			x.all(t, name+": the first", more...)
			c.alike(t, name+": the copy, behind what was done to the first")
			c.all(t, name+": the copy", put(1, text(41), text(42), text(43)), rot(2, 1, 9, 9), write(1, 0, text(44)))
			x.alike(t, name+": the first, behind what was done to the copy")
			c.all(t, name+": the copy", more...)
			c.all(t, name+": the copy", flush(), fail(0), fail(1), replace(2))
			x.alike(t, name+": the first, behind all")
			x.all(t, name+": the first", put(1, text(45), text(46), text(47)), flush(), replace(0))
			c.alike(t, name+": the copy, behind all")
		}
	}
}

func TestCopyOfCopy(t *testing.T) {
	x := busy(t, 3)
	c := x.copy().copy()
	x.all(t, "the first", fail(0), flush())
	c.alike(t, "a copy's copy")
	c.all(t, "a copy's copy", crash([]bool{true}, []bool{false, true}))
	x.alike(t, "the first")
}

// P10.4

func TestNoOtherDriveKnows(t *testing.T) {
	done := func(d int) []step {
		return []step{write(d, 0, text(61)), write(d, 1, text(62)), rot(d, 1, 20, 0x01010101), fail(d), replace(d), write(d, 2, text(63)), rot(d, 0, 1, 1), fail(d)}
	}
	for d := range 4 {
		for i, s := range done(d) {
			x := busy(t, 4)
			for _, first := range done(d)[:i] {
				x.does(t, "ahead", first)
			}
			ahead := told(x.a)
			x.does(t, "one drive", s)
			for other, was := range ahead {
				if is := told(x.a)[other]; other != d && !reflect.DeepEqual(is, was) {
					t.Errorf("%s: drive %d knows of it: %v, and was %v", s.name, other, is, was)
				}
			}
			x.alike(t, s.name)
		}
	}
}

// told answers all that is told of each drive of an array of three sectors, and what each write that waits leaves if it alone is kept.
func told(a *array.Array) [][]any {
	var all [][]any
	for d := range a.N() {
		list := []any{a.Waits(d), a.Dead(d)}
		for at := -1; at <= 3; at++ {
			b, e := a.Read(d, at)
			list = append(list, string(b), e, string(a.Stored(d, at)), a.Rotten(d, at))
		}
		for i := range a.Waits(d) {
			keep := make([][]bool, d+1)
			keep[d] = make([]bool, i+1)
			keep[d][i] = true
			c := a.Copy()
			c.Crash(keep)
			for at := range 3 {
				list = append(list, string(c.Stored(d, at)))
			}
		}
		all = append(all, list)
	}
	return all
}

func TestTwoArrays(t *testing.T) {
	x, y := newBeside(t, 3, 2), newBeside(t, 3, 2)
	for _, done := range slices.Sorted(maps.Keys(further())) {
		x.all(t, "one of two", further()[done]...)
		y.alike(t, "the other one")
	}
}

// R3

// spoil changes bytes, and what room there is behind them.
func spoil(b []byte) {
	b = b[:cap(b)]
	for i := range b {
		b[i] ^= 0xff
	}
}

func TestWhatIsHandedIn(t *testing.T) {
	x := newBeside(t, 3, 2)
	b := append(make([]byte, 0, 200), text(1)...)
	equal(t, "Write", x.a.Write(0, 0, b), api.OK)
	if !bytes.Equal(b, text(1)) || !bytes.Equal(b[64:200], make([]byte, 136)) {
		t.Error("Write changes what is handed in")
	}
	rows := append(make([][]byte, 0, 5), text(2), nil, text(3), text(4))
	room := rows[:5]
	room[4] = text(5)
	equal(t, "PutRow", x.a.PutRow(1, rows), 2)
	if !slices.EqualFunc(room, [][]byte{text(2), nil, text(3), text(4), text(5)}, bytes.Equal) {
		t.Error("PutRow changes what is handed in")
	}
	spoil(b)
	for i, row := range rows {
		spoil(row)
		rows[i] = text(9)
	}
	wants(t, "written", x.a, 0, text(1), noughts(), noughts())
	wants(t, "written", x.a, 1, text(2), noughts(), text(3))
	keep := [][]bool{{true, true}, {true}, {true}}
	x.a.Crash(keep)
	if !reflect.DeepEqual(keep, [][]bool{{true, true}, {true}, {true}}) {
		t.Error("Crash changes what is handed in")
	}
	wants(t, "stored", x.a, 0, text(1), noughts(), noughts())
	wants(t, "stored", x.a, 1, text(2), noughts(), text(3))
}

func TestOneRowToAll(t *testing.T) {
	a := made(t, 3, 1)
	b := text(1)
	equal(t, "PutRow", a.PutRow(0, [][]byte{b, b, b}), 3)
	equal(t, "Flush", a.Flush(), 3)
	spoil(b)
	equal(t, "Rot", a.Rot(1, 0, 0, 0xff), api.OK)
	turned := text(1)
	turned[0] ^= 0xff
	wants(t, "the same bytes at all", a, 0, text(1), turned, text(1))
}

func TestWhatIsAnswered(t *testing.T) {
	x := busy(t, 3)
	for at := range 3 {
		for d := range 3 {
			b, _ := x.a.Read(d, at)
			other, _ := x.a.Read(d, at)
			stored := x.a.Stored(d, at)
			keeps := bytes.Clone(other)
			spoil(append(b, 1, 2, 3))
			spoil(b)
			spoil(append(stored, 1, 2, 3))
			spoil(stored)
			if !bytes.Equal(other, keeps) {
				t.Error("two answers share memory")
			}
			x.alike(t, "behind what was done to answers")
		}
		row, other := x.a.Row(at), x.a.Row(at)
		keeps := slices.Clone(other)
		for d, b := range row {
			keeps[d] = bytes.Clone(other[d])
			spoil(append(b, 1, 2, 3))
			spoil(b)
			row[d] = text(1)
		}
		_ = append(row, text(2))
		if !slices.EqualFunc(other, keeps, bytes.Equal) {
			t.Error("two rows share memory")
		}
		x.alike(t, "behind what was done to rows")
	}
}

func TestRowsShareNothing(t *testing.T) {
	a := made(t, 3, 1)
	row := a.Row(0)
	_ = append(row[0], text(1)...)
	spoil(row[0])
	if !bytes.Equal(row[1], noughts()) || !bytes.Equal(row[2], noughts()) {
		t.Errorf("rows of one answer share memory: %v", row)
	}
}

// All of it: each sequence of a few steps, and long ones

func TestEachSequence(t *testing.T) {
	alphabet := []step{
		write(0, 0, text(1)), write(1, 0, text(2)), put(0, text(3), text(4)), put(0, nil, text(5)), flush(),
		crash(), crash([]bool{true}), crash(nil, []bool{false, true}), fail(0), fail(1), replace(0), replace(1), rot(0, 0, 0, 0x01020304), rot(1, 0, 60, 1),
	}
	var onward func(x beside, name string, left int)
	onward = func(x beside, name string, left int) {
		if left == 0 || t.Failed() {
			return
		}
		for _, s := range alphabet {
			then := x.copy()
			behind := name + ", " + s.name
			then.does(t, name, s)
			then.alike(t, behind)
			onward(then, behind, left-1)
		}
	}
	onward(newBeside(t, 2, 1), "a new array", 4)
}

// dice are numbers that are the same ones each time.
type dice struct{ now uint64 }

// below answers one of the numbers below n.
func (r *dice) below(n int) int {
	r.now = r.now*6364136223846793005 + 1442695040888963407
	return int(r.now>>33) % n
}

// rows answers rows, as many as there are drives, fewer or more, some of them without bytes or too long.
func (r *dice) rows(n int) [][]byte {
	all := make([][]byte, r.below(n+3))
	for i := range all {
		switch r.below(6) {
		case 0:
		case 1:
			all[i] = make([]byte, r.below(130))
		default:
			all[i] = text(r.below(256))
		}
	}
	return all
}

// keep answers lists for some of the drives, or for more.
func (r *dice) keep(n int) [][]bool {
	all := make([][]bool, r.below(n+3))
	for i := range all {
		all[i] = make([]bool, r.below(6))
		for j := range all[i] {
			all[i][j] = r.below(2) == 1
		}
	}
	return all
}

// step answers a step, to a drive of n of so many sectors or beyond them.
func (r *dice) step(n, sectors int) step {
	d, at := r.below(n+2)-1, r.below(sectors+2)-1
	switch r.below(20) {
	case 0, 1:
		return flush()
	case 2, 3:
		return crash(r.keep(n)...)
	case 4:
		return fail(d)
	case 5, 6:
		return replace(d)
	case 7, 8, 9:
		return rot(d, at, r.below(64)-1, uint32(r.below(1<<30))*uint32(r.below(5)))
	case 10, 11, 12, 13:
		return put(at, r.rows(n)...)
	}
	return write(d, at, text(r.below(256)))
}

func TestLongSequences(t *testing.T) {
	for seed := range uint64(60) {
		r := &dice{seed}
		n, sectors := 1+r.below(6), 1+r.below(5)
		x := newBeside(t, n, sectors)
		var left []beside
		for i := range 300 {
			s := r.step(n, sectors)
			name := fmt.Sprint("seed ", seed, ", step ", i)
			if !x.does(t, name, s) || !x.seen(t, name+", behind "+s.name) {
				return
			}
			if i%50 == 49 {
				left = append(left, x.copy())
			}
		}
		for i, c := range left {
			c.alike(t, fmt.Sprint("seed ", seed, ", the copy ", i, " that was left behind"))
		}
	}
}

func TestLongSequenceOfManyDrives(t *testing.T) {
	r := &dice{7}
	x := newBeside(t, 255, 2)
	for i := range 100 {
		s := r.step(255, 2)
		name := fmt.Sprint("255 drives, step ", i)
		if !x.does(t, name, s) || !x.seen(t, name) {
			return
		}
	}
}
