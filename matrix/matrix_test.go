package matrix_test

import (
	"bytes"
	"math"
	"slices"
	"testing"

	"ciborium/api"
	"ciborium/field"
	"ciborium/matrix"
)

const polynomial = 0x11d

// product is the product of two bytes, bit by bit: slow, and plain.
func product(a, b uint8) uint8 {
	whole := 0
	for bit := range 8 {
		if b>>bit&1 == 1 {
			whole ^= int(a) << bit
		}
	}
	for bit := 15; bit >= 8; bit-- {
		if whole>>bit&1 == 1 {
			whole ^= polynomial << (bit - 8)
		}
	}
	return uint8(whole)
}

// products are all of them, as great matrices ask for many.
var products = func() (all [256][256]uint8) {
	for a := range all {
		for b := range all[a] {
			all[a][b] = product(uint8(a), uint8(b))
		}
	}
	return all
}()

// inverse looks for the byte whose product with a is 1.
func inverse(a uint8) uint8 {
	for b := range 256 {
		if products[a][b] == 1 {
			return uint8(b)
		}
	}
	return 0
}

// of answers a matrix of some numbers, row by row.
func of(rows, cols int, a ...uint8) api.Matrix { return api.Matrix{Rows: rows, Cols: cols, A: a} }

// one answers an identity.
func one(n int) api.Matrix {
	m := of(n, n, make([]uint8, n*n)...)
	for i := range n {
		m.A[i*n+i] = 1
	}
	return m
}

// some answers a matrix of numbers that are the same each time, taken from the bytes from 0 on, so many of them.
func some(rows, cols int, bytes uint32, seed uint32) api.Matrix {
	m := of(rows, cols, make([]uint8, rows*cols)...)
	for i := range m.A {
		seed = seed*1664525 + 1013904223
		m.A[i] = uint8(seed >> 16 % bytes)
	}
	return m
}

// times is a product, number by number.
func times(a, b api.Matrix) api.Matrix {
	m := of(a.Rows, b.Cols, make([]uint8, a.Rows*b.Cols)...)
	for i := range a.Rows {
		for j := range b.Cols {
			for k := range a.Cols {
				m.A[i*m.Cols+j] ^= products[a.A[i*a.Cols+k]][b.A[k*b.Cols+j]]
			}
		}
	}
	return m
}

// turned answers a matrix with rows for columns.
func turned(m api.Matrix) api.Matrix {
	t := of(m.Cols, m.Rows, make([]uint8, len(m.A))...)
	for i := range m.Rows {
		for j := range m.Cols {
			t.A[j*m.Rows+i] = m.A[i*m.Cols+j]
		}
	}
	return t
}

// without answers a square matrix without a row and without a column.
func without(m api.Matrix, row, col int) api.Matrix {
	part := of(m.Rows-1, m.Cols-1)
	for i := range m.Rows {
		for j := range m.Cols {
			if i != row && j != col {
				part.A = append(part.A, m.A[i*m.Cols+j])
			}
		}
	}
	return part
}

// determinant is that of a square matrix, by its first row: it is not 0 if there is an inverse.
func determinant(m api.Matrix) uint8 {
	if m.Rows == 1 {
		return m.A[0]
	}
	var all uint8
	for col := range m.Cols {
		if m.A[col] != 0 {
			all ^= product(m.A[col], determinant(without(m, 0, col)))
		}
	}
	return all
}

// choices answers all lists of so many numbers below n, rising.
func choices(n, many int) [][]int {
	if many == 0 {
		return [][]int{nil}
	}
	var all [][]int
	for last := range n {
		for _, head := range choices(last, many-1) {
			all = append(all, append(slices.Clone(head), last))
		}
	}
	return all
}

// part answers a matrix of some rows and some columns.
func part(m api.Matrix, rows, cols []int) api.Matrix {
	p := of(len(rows), len(cols))
	for _, i := range rows {
		for _, j := range cols {
			p.A = append(p.A, m.A[i*m.Cols+j])
		}
	}
	return p
}

// greatest is how many rows the greatest square part has that has a determinant: the rank.
func greatest(m api.Matrix) int {
	for size := min(m.Rows, m.Cols); size > 0; size-- {
		for _, rows := range choices(m.Rows, size) {
			for _, cols := range choices(m.Cols, size) {
				if determinant(part(m, rows, cols)) != 0 {
					return size
				}
			}
		}
	}
	return 0
}

// same tells whether two matrices are the same.
func same(a, b api.Matrix) bool {
	return a.Rows == b.Rows && a.Cols == b.Cols && bytes.Equal(a.A, b.A)
}

// empty tells whether a matrix is zero in all its fields.
func empty(m api.Matrix) bool { return m.Rows == 0 && m.Cols == 0 && len(m.A) == 0 }

// clone answers a copy, with its own memory.
func clone(m api.Matrix) api.Matrix {
	m.A = bytes.Clone(m.A)
	return m
}

// is tells what goes wrong with an answer that is to be a matrix.
func is(t *testing.T, name string, got api.Matrix, e api.Errno, want api.Matrix) {
	t.Helper()
	if e != api.OK || !same(got, want) {
		t.Errorf("%s = %v, %d, want %v", name, got, e, want)
	}
}

// fails tells what goes wrong with an answer that is to be an error.
func fails(t *testing.T, name string, got api.Matrix, e api.Errno, want api.Errno) {
	t.Helper()
	if e != want || !empty(got) {
		t.Errorf("%s = %v, %d, want nothing, %d", name, got, e, want)
	}
}

// wrong answers matrices that aren't right.
func wrong() []api.Matrix {
	nine := make([]uint8, 9)
	return []api.Matrix{
		{},
		{Rows: 0, Cols: 3}, {Rows: 3, Cols: 0}, {Rows: 0, Cols: 0, A: nine[:1]}, {Rows: 0, Cols: 3, A: nine[:3]},
		{Rows: 0, Cols: 1}, {Rows: 1, Cols: 0}, {Rows: 3, Cols: 0, A: nine[:3]},
		{Rows: -1, Cols: -1, A: nine[:1]}, {Rows: -3, Cols: -3, A: nine}, {Rows: -3, Cols: 3, A: nine}, {Rows: 3, Cols: -3, A: nine},
		{Rows: -1, Cols: 0}, {Rows: 0, Cols: -1}, {Rows: math.MinInt, Cols: math.MinInt},
		{Rows: 256, Cols: 1, A: make([]uint8, 256)}, {Rows: 1, Cols: 256, A: make([]uint8, 256)},
		{Rows: 256, Cols: 256, A: make([]uint8, 256*256)}, {Rows: 255, Cols: 256, A: make([]uint8, 255*256)},
		{Rows: 1 << 32, Cols: 1 << 32}, {Rows: 1 << 63 >> 1, Cols: 4}, {Rows: 4, Cols: 1 << 62}, {Rows: 1 << 62, Cols: 4, A: []uint8{}},
		{Rows: math.MaxInt, Cols: math.MaxInt, A: nine[:1]}, {Rows: math.MaxInt, Cols: 1, A: nine}, {Rows: 1, Cols: math.MaxInt, A: nine},
		{Rows: math.MinInt, Cols: 2}, {Rows: 2, Cols: math.MinInt},
		{Rows: 3, Cols: 3, A: nine[:8]}, {Rows: 3, Cols: 3, A: append(nine, 0)}, {Rows: 3, Cols: 3, A: nil}, {Rows: 3, Cols: 3, A: []uint8{}},
		{Rows: 1, Cols: 1}, {Rows: 1, Cols: 1, A: nine[:2]}, {Rows: 2, Cols: 3, A: nine[:5]}, {Rows: 2, Cols: 3, A: nine[:7]},
		{Rows: 255, Cols: 255, A: nine}, {A: nine},
	}
}

// The examples

func TestExamples(t *testing.T) {
	f := field.New()
	got, e := matrix.Invert(f, of(1, 1, 2))
	is(t, "Invert of (2)", got, e, of(1, 1, 142))
	got, e = matrix.Invert(f, of(2, 2, 3, 7, 3, 7))
	fails(t, "Invert of two like rows", got, e, api.ErrSingular)
	got, e = matrix.Cauchy(f, []byte{2, 3}, []byte{0, 1})
	is(t, "Cauchy of 2, 3 and 0, 1", got, e, of(2, 2, 142, 244, 244, 142))
}

// P4.1

func TestRight(t *testing.T) {
	for _, c := range []struct{ rows, cols int }{{1, 1}, {1, 255}, {255, 1}, {255, 255}, {2, 3}, {3, 2}, {254, 255}} {
		if m := some(c.rows, c.cols, 256, 1); !matrix.Right(m) {
			t.Errorf("%d by %d isn't right", c.rows, c.cols)
		}
	}
	// What room there is behind the end is nobody's.
	roomy := make([]uint8, 4, 100)
	if !matrix.Right(of(2, 2, roomy...)) || !matrix.Right(api.Matrix{Rows: 2, Cols: 2, A: roomy}) || matrix.Right(api.Matrix{Rows: 10, Cols: 10, A: roomy}) {
		t.Error("room behind the end counts")
	}
	for _, m := range wrong() {
		if matrix.Right(m) {
			t.Errorf("%d by %d of %d numbers is right", m.Rows, m.Cols, len(m.A))
		}
	}
}

func TestIdentity(t *testing.T) {
	for _, n := range []int{1, 2, 3, 7, 128, 254, 255} {
		got, e := matrix.Identity(n)
		is(t, "Identity", got, e, one(n))
	}
	for _, n := range []int{0, -1, -255, 256, 257, 1 << 32, 1<<32 + 1, math.MaxInt, math.MinInt} {
		got, e := matrix.Identity(n)
		fails(t, "Identity of what may not be", got, e, api.ErrArg)
	}
}

func TestAt(t *testing.T) {
	for _, c := range []struct{ rows, cols int }{{1, 1}, {3, 4}, {4, 3}, {1, 255}, {255, 1}, {255, 255}} {
		m := some(c.rows, c.cols, 255, 2)
		for i := range m.A {
			m.A[i]++ // so that none is what stands beside an error
		}
		for i := range c.rows {
			for j := range c.cols {
				if got := matrix.At(m, i, j); got != m.A[i*c.cols+j] {
					t.Fatalf("%d by %d: at %d, %d stands %d", c.rows, c.cols, i, j, got)
				}
			}
		}
		for _, p := range []struct{ row, col int }{
			{-1, 0}, {0, -1}, {-1, -1}, {c.rows, 0}, {0, c.cols}, {c.rows, c.cols}, {c.rows - 1, c.cols}, {c.rows, c.cols - 1}, {1, -1}, {-1, c.cols},
			{-1, c.cols + 1}, {math.MaxInt, 0}, {0, math.MaxInt}, {math.MinInt, 0}, {0, math.MinInt}, {math.MaxInt, math.MaxInt}, {math.MinInt, math.MinInt}, {1 << 32, 0}, {1 << 62, 0},
		} {
			if got := matrix.At(m, p.row, p.col); got != 0 {
				t.Errorf("%d by %d: at %d, %d stands %d", c.rows, c.cols, p.row, p.col, got)
			}
		}
	}
	for _, m := range wrong() {
		for i := range m.A {
			m.A[i] = 7
		}
		for _, row := range []int{0, 1, -1, m.Rows - 1, m.Rows} {
			for _, col := range []int{0, 1, -1, m.Cols - 1, m.Cols} {
				if got := matrix.At(m, row, col); got != 0 {
					t.Errorf("%d by %d of %d numbers: at %d, %d stands %d", m.Rows, m.Cols, len(m.A), row, col, got)
				}
			}
		}
	}
}

func TestPick(t *testing.T) {
	m := of(3, 2, 1, 2, 3, 4, 5, 6)
	for _, c := range []struct {
		rows []int
		want api.Matrix
	}{
		{[]int{0}, of(1, 2, 1, 2)},
		{[]int{2}, of(1, 2, 5, 6)},
		{[]int{0, 1, 2}, m},
		{[]int{2, 0, 1}, of(3, 2, 5, 6, 1, 2, 3, 4)},
		{[]int{1, 1}, of(2, 2, 3, 4, 3, 4)},
		{[]int{0, 2, 0, 2, 2}, of(5, 2, 1, 2, 5, 6, 1, 2, 5, 6, 5, 6)},
	} {
		got, e := matrix.Pick(m, c.rows)
		is(t, "Pick", got, e, c.want)
	}
	for _, rows := range [][]int{nil, {}, {-1}, {3}, {0, 3}, {3, 0}, {0, -1}, {-1, 0}, {0, 1, 2, 3}, {math.MaxInt}, {math.MinInt}, {1 << 32}, {0, 1 << 63 >> 1}} {
		got, e := matrix.Pick(m, rows)
		fails(t, "Pick of rows that there aren't", got, e, api.ErrArg)
	}
	for _, w := range wrong() {
		for _, rows := range [][]int{nil, {0}, {0, 1}, {w.Rows - 1}, {-1}} {
			got, e := matrix.Pick(w, rows)
			fails(t, "Pick of what isn't right", got, e, api.ErrArg)
		}
	}
}

func TestPickOfMany(t *testing.T) {
	for _, m := range []api.Matrix{of(1, 1, 9), some(3, 255, 256, 3), some(255, 255, 256, 4), some(255, 1, 256, 5)} {
		rows, want := make([]int, 255), of(255, m.Cols)
		for i := range rows {
			rows[i] = (i*7 + 1) % m.Rows
			want.A = append(want.A, m.A[rows[i]*m.Cols:(rows[i]+1)*m.Cols]...)
		}
		got, e := matrix.Pick(m, rows)
		is(t, "Pick of 255 rows", got, e, want)
		for _, many := range [][]int{append(rows, 0), make([]int, 256), make([]int, 257), make([]int, 1<<16+1)} {
			got, e = matrix.Pick(m, many)
			fails(t, "Pick of more than 255 rows", got, e, api.ErrArg)
		}
		rows[254] = m.Rows
		got, e = matrix.Pick(m, rows)
		fails(t, "Pick of 255 rows, of which one there isn't", got, e, api.ErrArg)
	}
}

func TestPickIsAt(t *testing.T) {
	m := some(7, 5, 256, 6)
	for _, rows := range [][]int{{6, 5, 4, 3, 2, 1, 0}, {3, 3, 3}, {0, 6}} {
		got, e := matrix.Pick(m, rows)
		if e != api.OK || !matrix.Right(got) {
			t.Fatalf("Pick of %v = %v, %d", rows, got, e)
		}
		for i, row := range rows {
			for col := range 5 {
				if matrix.At(got, i, col) != matrix.At(m, row, col) {
					t.Errorf("Pick of %v: at %d, %d stands %d", rows, i, col, matrix.At(got, i, col))
				}
			}
		}
	}
}

// P4.2

func TestMul(t *testing.T) {
	f := field.New()
	for _, c := range []struct{ a, b, want api.Matrix }{
		{of(1, 1, 2), of(1, 1, 128), of(1, 1, 29)},
		{of(1, 1, 0), of(1, 1, 128), of(1, 1, 0)},
		{of(1, 3, 1, 2, 3), of(3, 1, 4, 128, 1), of(1, 1, 4^29^3)},
		{of(3, 1, 4, 128, 1), of(1, 3, 1, 2, 3), of(3, 3, 4, 8, 12, 128, 29, 157, 1, 2, 3)},
		{of(2, 2, 0, 1, 1, 0), of(2, 3, 1, 2, 3, 4, 5, 6), of(2, 3, 4, 5, 6, 1, 2, 3)},
		{of(2, 3, 1, 2, 3, 4, 5, 6), of(3, 2, 0, 1, 0, 0, 1, 0), of(2, 2, 3, 1, 6, 4)},
	} {
		got, e := matrix.Mul(f, c.a, c.b)
		is(t, "Mul", got, e, c.want)
	}
}

func TestMulIsPlain(t *testing.T) {
	f := field.New()
	for rows := 1; rows < 6; rows++ {
		for mid := 1; mid < 6; mid++ {
			for cols := 1; cols < 6; cols++ {
				a, b := some(rows, mid, 256, uint32(rows)), some(mid, cols, 256, uint32(cols+77))
				got, e := matrix.Mul(f, a, b)
				is(t, "Mul", got, e, times(a, b))
			}
		}
	}
	for _, c := range []struct{ rows, mid, cols int }{{1, 255, 1}, {255, 1, 255}, {1, 255, 255}, {255, 255, 1}, {255, 255, 255}, {7, 100, 3}} {
		a, b := some(c.rows, c.mid, 256, 8), some(c.mid, c.cols, 256, 9)
		got, e := matrix.Mul(f, a, b)
		is(t, "Mul of great ones", got, e, times(a, b))
	}
}

func TestMulByIdentityAndByNoughts(t *testing.T) {
	f := field.New()
	for _, c := range []struct{ rows, cols int }{{1, 1}, {4, 4}, {2, 9}, {9, 2}, {255, 3}, {3, 255}} {
		m := some(c.rows, c.cols, 256, 10)
		got, e := matrix.Mul(f, one(c.rows), m)
		is(t, "the identity times it", got, e, m)
		got, e = matrix.Mul(f, m, one(c.cols))
		is(t, "it times the identity", got, e, m)
		got, e = matrix.Mul(f, m, of(c.cols, 5, make([]uint8, 5*c.cols)...))
		is(t, "it times noughts", got, e, of(c.rows, 5, make([]uint8, 5*c.rows)...))
	}
}

func TestMulOfWhatDoesNotFit(t *testing.T) {
	f := field.New()
	for _, c := range []struct{ a, b api.Matrix }{
		{some(2, 3, 256, 1), some(2, 3, 256, 2)}, {some(2, 2, 256, 1), some(3, 3, 256, 2)}, {some(2, 3, 256, 1), some(4, 2, 256, 2)},
		{some(3, 2, 256, 1), some(3, 2, 256, 2)}, {some(1, 1, 256, 1), some(2, 1, 256, 2)}, {some(1, 255, 256, 1), some(1, 255, 256, 2)}, {some(1, 255, 256, 1), some(254, 1, 256, 2)},
	} {
		got, e := matrix.Mul(f, c.a, c.b)
		fails(t, "Mul of what doesn't fit", got, e, api.ErrArg)
	}
	for _, w := range wrong() {
		for _, m := range []api.Matrix{some(1, 1, 256, 1), some(3, 3, 256, 1), some(255, 255, 256, 1)} {
			got, e := matrix.Mul(f, w, m)
			fails(t, "Mul of what isn't right with what is", got, e, api.ErrArg)
			got, e = matrix.Mul(f, m, w)
			fails(t, "Mul of what is right with what isn't", got, e, api.ErrArg)
		}
		got, e := matrix.Mul(f, w, w)
		fails(t, "Mul of what isn't right", got, e, api.ErrArg)
	}
}

// inverted tells what goes wrong with the inverse of a matrix that has one.
func inverted(t *testing.T, f *field.Field, m api.Matrix) {
	t.Helper()
	got, e := matrix.Invert(f, m)
	if e != api.OK || !matrix.Right(got) || got.Rows != m.Rows || got.Cols != m.Cols {
		t.Errorf("Invert of %v = %v, %d", m, got, e)
		return
	}
	if !same(times(m, got), one(m.Rows)) || !same(times(got, m), one(m.Rows)) {
		t.Errorf("Invert of %v = %v: no inverse", m, got)
	}
	again, e := matrix.Invert(f, got)
	is(t, "the inverse of the inverse", again, e, m)
}

func TestInvert(t *testing.T) {
	f := field.New()
	for _, c := range []struct{ m, want api.Matrix }{
		{of(1, 1, 1), of(1, 1, 1)},
		{of(1, 1, 2), of(1, 1, 142)},
		{of(1, 1, 142), of(1, 1, 2)},
		{of(2, 2, 1, 0, 0, 1), of(2, 2, 1, 0, 0, 1)},
		{of(2, 2, 0, 1, 1, 0), of(2, 2, 0, 1, 1, 0)},
		{of(2, 2, 0, 2, 3, 0), of(2, 2, 0, 244, 142, 0)},
		{of(2, 2, 1, 5, 0, 1), of(2, 2, 1, 5, 0, 1)},
		{of(2, 2, 2, 0, 0, 3), of(2, 2, 142, 0, 0, 244)},
		{of(3, 3, 0, 0, 1, 1, 0, 0, 0, 1, 0), of(3, 3, 0, 1, 0, 0, 0, 1, 1, 0, 0)},
		{of(3, 3, 1, 1, 0, 1, 1, 1, 0, 1, 0), of(3, 3, 1, 0, 1, 0, 0, 1, 1, 1, 0)}, // the second number of the second row goes
	} {
		got, e := matrix.Invert(f, c.m)
		is(t, "Invert", got, e, c.want)
		inverted(t, f, c.m)
	}
	for a := 1; a < 256; a++ {
		got, e := matrix.Invert(f, of(1, 1, uint8(a)))
		is(t, "Invert of one number", got, e, of(1, 1, inverse(uint8(a))))
	}
}

func TestInvertOfNone(t *testing.T) {
	f := field.New()
	for _, m := range []api.Matrix{
		of(1, 1, 0),
		of(2, 2, 0, 0, 0, 0),
		of(2, 2, 1, 2, 1, 2),
		of(2, 2, 1, 2, 0, 0), of(2, 2, 0, 0, 1, 2), of(2, 2, 1, 0, 1, 0), of(2, 2, 0, 1, 0, 1),
		of(2, 2, 1, 128, 2, 29),                 // the second row is twice the first one
		of(3, 3, 1, 2, 3, 4, 5, 6, 5, 7, 5),     // the third row is the sum of the others
		of(3, 3, 5, 7, 5, 1, 2, 3, 4, 5, 6),     // so is the first one
		of(3, 3, 1, 2, 3, 4, 5, 6, 1, 2, 3),     // two like rows, another one between
		of(3, 3, 1, 4, 5, 2, 5, 7, 3, 6, 5),     // a column is the sum of the others
		of(3, 3, 1, 2, 3, 0, 0, 0, 4, 5, 6),     // a row of noughts
		of(3, 3, 1, 0, 3, 4, 0, 6, 7, 0, 8),     // a column of noughts
		of(3, 3, 0, 0, 0, 0, 0, 0, 0, 0, 1),     // noughts but at the end
		of(3, 3, 0, 1, 0, 0, 0, 1, 0, 0, 0),     // each row leads another column, none the first one
		of(255, 255, make([]uint8, 255*255)...), // noughts
	} {
		got, e := matrix.Invert(f, m)
		fails(t, "Invert of what has no inverse", got, e, api.ErrSingular)
	}
	for _, n := range []int{2, 3, 10, 255} {
		m := some(n, n, 256, uint32(n))
		last := m.A[(n-1)*n:]
		clear(last)
		for row := range n - 1 {
			for col := range n {
				last[col] ^= product(uint8(row+1), m.A[row*n+col])
			}
		}
		got, e := matrix.Invert(f, m)
		fails(t, "Invert, of whose rows the last one is a sum of multiples", got, e, api.ErrSingular)
	}
}

func TestInvertOfAllSmallOnes(t *testing.T) {
	f := field.New()
	for n := 1; n <= 3; n++ {
		numbers := map[int]int{1: 256, 2: 6, 3: 3}[n]
		many := 1
		for range n * n {
			many *= numbers
		}
		for which := range many {
			m := of(n, n, make([]uint8, n*n)...)
			for i := range m.A {
				m.A[i] = uint8(which % numbers)
				which /= numbers
			}
			if determinant(m) != 0 {
				inverted(t, f, m)
				continue
			}
			got, e := matrix.Invert(f, m)
			fails(t, "Invert of what has no determinant", got, e, api.ErrSingular)
		}
	}
}

func TestInvertOfSome(t *testing.T) {
	f := field.New()
	for n := 1; n <= 5; n++ {
		for seed := range uint32(150) {
			for _, numbers := range []uint32{2, 3, 256} {
				m := some(n, n, numbers, seed)
				if determinant(m) != 0 {
					inverted(t, f, m)
					continue
				}
				got, e := matrix.Invert(f, m)
				fails(t, "Invert of what has no determinant", got, e, api.ErrSingular)
			}
		}
	}
}

func TestInvertOfGreatOnes(t *testing.T) {
	f := field.New()
	// A matrix whose diagonal, from the other side, is without noughts, and which has noughts ahead of it, so that each column's lead is looked for.
	for _, n := range []int{20, 100, 255} {
		m := some(n, n, 256, 11)
		for row := range n {
			for col := range n - 1 - row {
				m.A[row*n+col] = 0
			}
			m.A[row*n+n-1-row] = uint8(row%255 + 1)
		}
		inverted(t, f, m)
		got, e := matrix.Invert(f, one(n))
		is(t, "Invert of the identity", got, e, one(n))
	}
}

func TestInvertOfWhatMayNotBe(t *testing.T) {
	f := field.New()
	for _, m := range append(wrong(), some(1, 2, 256, 1), some(2, 1, 256, 1), some(2, 3, 256, 1), some(254, 255, 256, 1), of(2, 1, 0, 0), of(1, 2, 0, 0)) {
		got, e := matrix.Invert(f, m)
		fails(t, "Invert of what may not be", got, e, api.ErrArg)
	}
}

func TestRank(t *testing.T) {
	f := field.New()
	for _, c := range []struct {
		m    api.Matrix
		want int
	}{
		{of(1, 1, 0), 0}, {of(1, 1, 1), 1}, {of(1, 1, 255), 1},
		{of(1, 4, 0, 0, 0, 0), 0}, {of(4, 1, 0, 0, 0, 0), 0}, {of(1, 4, 0, 0, 0, 9), 1}, {of(4, 1, 0, 0, 0, 9), 1}, {of(4, 1, 9, 8, 0, 1), 1},
		{of(2, 2, 0, 0, 0, 0), 0}, {of(2, 2, 1, 2, 1, 2), 1}, {of(2, 2, 1, 128, 2, 29), 1}, {of(2, 2, 1, 2, 2, 1), 2}, {of(2, 2, 0, 0, 1, 2), 1}, {of(2, 2, 0, 1, 0, 2), 1},
		{of(3, 3, 1, 2, 3, 4, 5, 6, 5, 7, 5), 2}, {of(3, 3, 5, 7, 5, 1, 2, 3, 4, 5, 6), 2}, {of(3, 3, 0, 1, 0, 0, 0, 1, 0, 0, 0), 2}, {of(3, 3, 0, 0, 1, 0, 1, 0, 1, 0, 0), 3},
		{of(2, 4, 0, 0, 1, 2, 0, 0, 2, 1), 2}, {of(2, 4, 0, 0, 1, 2, 0, 0, 1, 2), 1}, {of(4, 2, 1, 0, 1, 0, 1, 0, 1, 1), 2}, {of(4, 2, 1, 2, 1, 2, 1, 2, 1, 2), 1},
		{of(3, 3, 0, 0, 0, 0, 0, 0, 0, 0, 1), 1},
		{one(1), 1}, {one(7), 7}, {one(255), 255},
		{of(255, 255, make([]uint8, 255*255)...), 0}, {of(255, 255, bytes.Repeat([]byte{7}, 255*255)...), 1},
		{of(255, 1, bytes.Repeat([]byte{7}, 255)...), 1}, {of(1, 255, bytes.Repeat([]byte{7}, 255)...), 1},
	} {
		if got := matrix.Rank(f, c.m); got != c.want {
			t.Errorf("Rank of %d by %d, %v = %d, want %d", c.m.Rows, c.m.Cols, c.m.A[:min(len(c.m.A), 16)], got, c.want)
		}
		if got := matrix.Rank(f, turned(c.m)); got != c.want {
			t.Errorf("Rank of %d by %d, %v, with rows for columns = %d, want %d", c.m.Rows, c.m.Cols, c.m.A[:min(len(c.m.A), 16)], got, c.want)
		}
	}
	for _, m := range wrong() {
		for i := range m.A {
			m.A[i] = 7
		}
		if got := matrix.Rank(f, m); got != 0 {
			t.Errorf("Rank of %d by %d of %d numbers = %d", m.Rows, m.Cols, len(m.A), got)
		}
	}
}

func TestRankIsThatOfTheGreatestPart(t *testing.T) {
	f := field.New()
	for rows := 1; rows <= 4; rows++ {
		for cols := 1; cols <= 5; cols++ {
			for seed := range uint32(40) {
				for _, numbers := range []uint32{2, 3, 256} {
					m := some(rows, cols, numbers, seed)
					want := greatest(m)
					if got := matrix.Rank(f, m); got != want {
						t.Fatalf("Rank of %v = %d, want %d", m, got, want)
					}
					if got := matrix.Rank(f, turned(m)); got != want {
						t.Fatalf("Rank of %v, with rows for columns = %d, want %d", m, got, want)
					}
				}
			}
		}
	}
}

// leading answers a matrix that has an identity of size rows ahead, and other numbers beside it and below it.
func leading(rows, cols, size int, seed uint32) api.Matrix {
	m := some(rows, cols, 256, seed)
	for i := range size {
		for j := range size {
			m.A[i*cols+j] = 0
		}
		m.A[i*cols+i] = 1
	}
	return m
}

func TestRankOfProducts(t *testing.T) {
	f := field.New()
	for _, c := range []struct{ rows, cols, rank int }{{5, 5, 5}, {5, 5, 2}, {20, 7, 3}, {7, 20, 3}, {255, 255, 100}, {255, 100, 99}, {100, 255, 99}, {255, 255, 1}, {255, 255, 254}} {
		// Neither part has more, and each has all of it.
		m := times(leading(c.rows, c.rank, c.rank, 12), leading(c.rank, c.cols, c.rank, 13))
		if got := matrix.Rank(f, m); got != c.rank {
			t.Errorf("Rank of %d by %d = %d, want %d", c.rows, c.cols, got, c.rank)
		}
	}
}

func TestRankTellsOfInverses(t *testing.T) {
	f := field.New()
	for n := 1; n <= 6; n++ {
		for seed := range uint32(100) {
			m := some(n, n, 2, seed)
			_, e := matrix.Invert(f, m)
			if (matrix.Rank(f, m) == n) != (e == api.OK) {
				t.Errorf("%v: the rank %d, Invert %d", m, matrix.Rank(f, m), e)
			}
		}
	}
}

// P4.3

// bytesFrom answers so many bytes, rising, and round.
func bytesFrom(first, many int) []byte {
	b := make([]byte, many)
	for i := range b {
		b[i] = byte(first + i)
	}
	return b
}

func TestCauchy(t *testing.T) {
	f := field.New()
	for _, c := range []struct{ xs, ys []byte }{
		{[]byte{0}, []byte{1}}, {[]byte{1}, []byte{0}}, {[]byte{255}, []byte{0}}, {[]byte{0}, []byte{255}},
		{[]byte{2, 3}, []byte{0, 1}}, {[]byte{9, 200, 3}, []byte{7}}, {[]byte{7}, []byte{9, 200, 3}}, {[]byte{255, 0, 128}, []byte{254, 1, 127, 129}},
		{bytesFrom(0, 128), bytesFrom(128, 128)}, {bytesFrom(0, 255), bytesFrom(255, 1)}, {bytesFrom(7, 1), bytesFrom(8, 255)}, {bytesFrom(100, 255), bytesFrom(99, 1)}, {bytesFrom(200, 100), bytesFrom(44, 156)},
	} {
		want := of(len(c.xs), len(c.ys))
		for _, x := range c.xs {
			for _, y := range c.ys {
				want.A = append(want.A, inverse(x^y))
			}
		}
		got, e := matrix.Cauchy(f, c.xs, c.ys)
		is(t, "Cauchy", got, e, want)
		back, e := matrix.Cauchy(f, c.ys, c.xs)
		is(t, "Cauchy the other way", back, e, turned(want))
	}
}

func TestCauchyOfWhatMayNotBe(t *testing.T) {
	f := field.New()
	for _, c := range []struct{ xs, ys []byte }{
		{nil, nil}, {[]byte{}, []byte{}}, {nil, []byte{1}}, {[]byte{1}, nil}, {[]byte{}, []byte{1}}, {[]byte{1}, []byte{}},
		{[]byte{1, 1}, []byte{2}}, {[]byte{2}, []byte{1, 1}}, {[]byte{0, 5, 0}, []byte{2}}, {[]byte{2}, []byte{255, 5, 255}}, {[]byte{0, 0}, []byte{2}},
		{[]byte{1}, []byte{1}}, {[]byte{0}, []byte{0}}, {[]byte{255}, []byte{255}}, {[]byte{1, 2}, []byte{3, 2}}, {[]byte{2, 1}, []byte{2, 3}},
		{bytesFrom(0, 255), bytesFrom(254, 1)}, {bytesFrom(0, 255), bytesFrom(0, 1)}, {bytesFrom(0, 255), bytesFrom(255, 2)}, {bytesFrom(0, 129), bytesFrom(128, 128)},
		{bytesFrom(0, 255), bytesFrom(0, 255)}, {bytesFrom(0, 255), bytesFrom(128, 255)},
		{bytesFrom(0, 256), []byte{1}}, {[]byte{1}, bytesFrom(0, 256)}, {bytesFrom(0, 256), nil}, {nil, bytesFrom(0, 256)}, {bytesFrom(0, 256), bytesFrom(0, 256)},
		{bytesFrom(0, 257), []byte{1}}, {[]byte{1}, make([]byte, 1<<16)}, {make([]byte, 1<<20), make([]byte, 1<<20)},
	} {
		got, e := matrix.Cauchy(f, c.xs, c.ys)
		fails(t, "Cauchy of what may not be", got, e, api.ErrArg)
	}
}

// ErrNil, and 0 of Rank

func TestNobodysField(t *testing.T) {
	var zero field.Field
	right := []api.Matrix{of(1, 1, 2), some(3, 3, 256, 1), of(2, 2, 0, 0, 0, 0), some(2, 3, 256, 1), one(255)}
	for name, f := range map[string]*field.Field{"nil": nil, "zero": &zero, "new": new(field.Field)} {
		for _, a := range append(wrong(), right...) {
			for _, b := range append(right, api.Matrix{}) {
				got, e := matrix.Mul(f, a, b)
				fails(t, name+": Mul", got, e, api.ErrNil)
				got, e = matrix.Mul(f, b, a)
				fails(t, name+": Mul", got, e, api.ErrNil)
			}
			got, e := matrix.Invert(f, a)
			fails(t, name+": Invert", got, e, api.ErrNil)
			if got := matrix.Rank(f, a); got != 0 {
				t.Errorf("%s: Rank = %d", name, got)
			}
		}
		for _, xs := range [][]byte{nil, {}, {1}, {1, 2}, {1, 1}, bytesFrom(0, 256), bytesFrom(0, 255)} {
			for _, ys := range [][]byte{nil, {}, {3}, {1}, {3, 3}, {3, 4}, bytesFrom(0, 256), {255}} {
				got, e := matrix.Cauchy(f, xs, ys)
				fails(t, name+": Cauchy", got, e, api.ErrNil)
			}
		}
	}
	if zero != (field.Field{}) {
		t.Error("a zero Field was changed")
	}
}

// P4.4

func TestSquarePartsOfCauchyHaveInverses(t *testing.T) {
	f := field.New()
	for _, c := range []struct{ xs, ys []byte }{
		{[]byte{4, 5, 6, 7}, []byte{0, 1, 2, 3}}, {[]byte{0, 255, 17, 34, 68}, []byte{1, 2, 4, 8}}, {[]byte{200, 3}, []byte{9, 77, 1, 0, 5}},
	} {
		m, e := matrix.Cauchy(f, c.xs, c.ys)
		if e != api.OK {
			t.Fatalf("Cauchy of %v, %v: %d", c.xs, c.ys, e)
		}
		for size := 1; size <= min(len(c.xs), len(c.ys)); size++ {
			for _, rows := range choices(len(c.xs), size) {
				picked, e := matrix.Pick(m, rows)
				if e != api.OK {
					t.Fatalf("Pick of %v: %d", rows, e)
				}
				for _, cols := range choices(len(c.ys), size) {
					square, e := matrix.Pick(turned(picked), cols)
					if e != api.OK || determinant(square) == 0 || matrix.Rank(f, square) != size {
						t.Errorf("rows %v and columns %v of %v: %v, %d", rows, cols, m, square, e)
					}
					inverted(t, f, square)
				}
			}
		}
	}
}

func TestGreatCauchyHasAnInverse(t *testing.T) {
	f := field.New()
	m, e := matrix.Cauchy(f, bytesFrom(128, 128), bytesFrom(0, 128))
	if e != api.OK || matrix.Rank(f, m) != 128 {
		t.Fatalf("Cauchy of all bytes: %d, the rank %d", e, matrix.Rank(f, m))
	}
	inverted(t, f, m)
	for _, rows := range [][]int{{0, 127, 5}, {9, 8, 7, 6, 5, 4, 3, 2, 1}} {
		some, e := matrix.Pick(m, rows)
		if e != api.OK || matrix.Rank(f, some) != len(rows) {
			t.Errorf("rows %v: the rank %d", rows, matrix.Rank(f, some))
		}
	}
	wide, e := matrix.Cauchy(f, bytesFrom(0, 3), bytesFrom(3, 253))
	if e != api.OK || matrix.Rank(f, wide) != 3 || matrix.Rank(f, turned(wide)) != 3 {
		t.Errorf("a wide one: %d, the rank %d", e, matrix.Rank(f, wide))
	}
}

func TestInverseOfProducts(t *testing.T) {
	f := field.New()
	met := 0
	for n := 1; n <= 6; n++ {
		for seed := range uint32(20) {
			a, b := some(n, n, 256, seed), some(n, n, 256, seed+1000)
			whole, e := matrix.Mul(f, a, b)
			if e != api.OK {
				t.Fatalf("Mul: %d", e)
			}
			backA, eA := matrix.Invert(f, a)
			backB, eB := matrix.Invert(f, b)
			back, e := matrix.Invert(f, whole)
			if eA != api.OK || eB != api.OK {
				fails(t, "Invert of a product, one of which has no inverse", back, e, api.ErrSingular)
				continue
			}
			met++
			want, _ := matrix.Mul(f, backB, backA)
			is(t, "Invert of a product", back, e, want)
		}
	}
	if met < 100 {
		t.Errorf("of %d products alone both have inverses", met)
	}
}

func TestProductsAreAssociative(t *testing.T) {
	f := field.New()
	for _, c := range []struct{ i, j, k, l int }{{1, 1, 1, 1}, {2, 3, 4, 5}, {5, 4, 3, 2}, {1, 9, 1, 9}, {9, 1, 9, 1}, {40, 255, 7, 255}} {
		a, b, d := some(c.i, c.j, 256, 14), some(c.j, c.k, 256, 15), some(c.k, c.l, 256, 16)
		left, _ := matrix.Mul(f, a, b)
		left, e := matrix.Mul(f, left, d)
		right, _ := matrix.Mul(f, b, d)
		right, e2 := matrix.Mul(f, a, right)
		if e != api.OK || e2 != api.OK || !same(left, right) {
			t.Errorf("%v: %d, %d, or not associative", c, e, e2)
		}
	}
}

// R3

// roomy answers a matrix with room behind its end, and all of that.
func roomy(m api.Matrix) (api.Matrix, []uint8) {
	all := append(bytes.Clone(m.A), "behind the matrix, where somebody else keeps what is his own"...)
	return api.Matrix{Rows: m.Rows, Cols: m.Cols, A: all[:len(m.A)]}, all
}

// calls answers, by its name, each call that answers a matrix, of these arguments.
func calls(f *field.Field, a, b api.Matrix, rows []int, xs, ys []byte) map[string]func() (api.Matrix, api.Errno) {
	return map[string]func() (api.Matrix, api.Errno){
		"Identity": func() (api.Matrix, api.Errno) { return matrix.Identity(a.Rows) },
		"Mul":      func() (api.Matrix, api.Errno) { return matrix.Mul(f, a, b) },
		"Mul of a": func() (api.Matrix, api.Errno) { return matrix.Mul(f, a, a) },
		"Invert":   func() (api.Matrix, api.Errno) { return matrix.Invert(f, a) },
		"Pick":     func() (api.Matrix, api.Errno) { return matrix.Pick(a, rows) },
		"Cauchy":   func() (api.Matrix, api.Errno) { return matrix.Cauchy(f, xs, ys) },
	}
}

func TestNothingIsChanged(t *testing.T) {
	f := field.New()
	for _, m := range []api.Matrix{of(1, 1, 2), of(1, 1, 0), of(2, 2, 0, 1, 1, 0), of(2, 2, 1, 2, 1, 2), one(3), of(3, 3, 0, 0, 2, 0, 3, 1, 4, 1, 1), some(20, 20, 256, 17)} {
		a, allOfA := roomy(m)
		b, allOfB := roomy(some(m.Cols, 5, 256, 18))
		allRows, allBytes := []int{0, m.Rows - 1, 0, -1, 77}, bytesFrom(0, 60)
		rows, xs, ys := allRows[:3], allBytes[:3], allBytes[10:14]
		keptA, keptB, keptRows, keptBytes := bytes.Clone(allOfA), bytes.Clone(allOfB), slices.Clone(allRows), bytes.Clone(allBytes)
		for name, call := range calls(f, a, b, rows, xs, ys) {
			got, _ := call()
			got.A = append(got.A, "behind"...)
			for i := range got.A {
				got.A[i] = ^got.A[i]
			}
			matrix.Rank(f, a)
			matrix.Right(a)
			matrix.At(a, 0, 0)
			if !bytes.Equal(allOfA, keptA) || !bytes.Equal(allOfB, keptB) || !slices.Equal(allRows, keptRows) || !bytes.Equal(allBytes, keptBytes) {
				t.Fatalf("%s of %v: what was handed in was changed", name, m)
			}
		}
	}
}

func TestAnswersAreNewMemory(t *testing.T) {
	f := field.New()
	for _, a := range []api.Matrix{of(1, 1, 2), one(3), of(3, 3, 0, 0, 2, 0, 3, 1, 4, 1, 1)} {
		b, rows, xs, ys := one(a.Cols), make([]int, a.Rows), []byte{1, 2}, []byte{3, 4}
		for i := range rows {
			rows[i] = i
		}
		for name, call := range calls(f, a, b, rows, xs, ys) {
			first, e := call()
			kept := clone(first)
			second, _ := call()
			clear(second.A[:cap(second.A)])
			if e != api.OK || !same(first, kept) {
				t.Errorf("%s: %d, or two answers share memory", name, e)
			}
			third, e := call()
			is(t, name+" again", third, e, kept)
		}
	}
}

func TestWhatWasHandedInIsNotKept(t *testing.T) {
	f := field.New()
	a, b, rows, xs, ys := one(3), one(3), []int{0, 1, 2}, []byte{1, 2}, []byte{3, 4}
	kept := map[string][2]api.Matrix{}
	for name, call := range calls(f, a, b, rows, xs, ys) {
		got, _ := call()
		kept[name] = [2]api.Matrix{got, clone(got)}
	}
	clear(a.A)
	clear(b.A)
	clear(rows)
	clear(xs)
	clear(ys)
	for name, pair := range kept {
		if !same(pair[0], pair[1]) {
			t.Errorf("%s: the answer goes with what was handed in", name)
		}
	}
	if got := matrix.Rank(f, a); got != 0 {
		t.Errorf("Rank of what was cleared = %d", got)
	}
	got, e := matrix.Invert(f, a)
	fails(t, "Invert of what was cleared", got, e, api.ErrSingular)
}

// R4

func TestFieldsAnswerTheSame(t *testing.T) {
	one, two := field.New(), field.New()
	for seed := range uint32(10) {
		a, b := some(4, 4, 256, seed), some(4, 4, 256, seed+50)
		for name, call := range calls(one, a, b, []int{3, 1}, []byte{1}, []byte{2, 9}) {
			first, e := call()
			second, e2 := calls(two, a, b, []int{3, 1}, []byte{1}, []byte{2, 9})[name]()
			if e != e2 || !same(first, second) {
				t.Errorf("%s with one field %v, %d, with another %v, %d", name, first, e, second, e2)
			}
		}
	}
}
