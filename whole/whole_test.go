package whole

import (
	"math/big"
	"testing"
)

func TestDivision(t *testing.T) {
	for _, c := range []struct{ a, b, floor, ceil int64 }{
		{7, 2, 3, 4}, {-7, 2, -4, -3}, {6, 2, 3, 3}, {-6, 2, -3, -3}, {0, 5, 0, 0},
		{1<<63 - 1, 1, 1<<63 - 1, 1<<63 - 1}, {-1 << 63, 3, -3074457345618258603, -3074457345618258602},
	} {
		if Floor(c.a, c.b) != c.floor || Ceil(c.a, c.b) != c.ceil {
			t.Error(c, Floor(c.a, c.b), Ceil(c.a, c.b))
		}
	}
}

func TestPart(t *testing.T) {
	for _, c := range []struct{ a, b, c int64 }{
		{7, 3, 2}, {6, 3, 2}, {0, 9, 1}, {1 << 62, 6, 8}, {1<<62 + 1, 1 << 40, 1<<41 + 1}, {1<<63 - 1, 1<<63 - 1, 1<<63 - 1},
	} {
		p := new(big.Int).Mul(big.NewInt(c.a), big.NewInt(c.b))
		q, r := new(big.Int).DivMod(p, big.NewInt(c.c), new(big.Int))
		up := q.Int64()
		if r.Sign() > 0 {
			up++
		}
		if PartFloor(c.a, c.b, c.c) != q.Int64() || PartCeil(c.a, c.b, c.c) != up {
			t.Error(c, PartFloor(c.a, c.b, c.c), PartCeil(c.a, c.b, c.c))
		}
	}
}

func TestRoots(t *testing.T) {
	for _, c := range []struct{ n, floor, ceil int64 }{
		{0, 0, 0}, {1, 1, 1}, {2, 1, 2}, {3, 1, 2}, {4, 2, 2}, {99, 9, 10}, {100, 10, 10}, {101, 10, 11},
		{1 << 62, 1 << 31, 1 << 31}, {1<<62 - 1, 1<<31 - 1, 1 << 31}, {1<<63 - 1, 3037000499, 3037000500},
	} {
		if RootFloor(c.n) != c.floor || RootCeil(c.n) != c.ceil {
			t.Error(c, RootFloor(c.n), RootCeil(c.n))
		}
	}
	for n := range int64(3000) {
		if r := RootFloor(n); r*r > n || (r+1)*(r+1) <= n {
			t.Error(n, r)
		}
	}
}

func TestWide(t *testing.T) {
	a, b := Product(1<<40, 1<<40), Product(1<<40, 1<<40+1)
	if !a.Less(b) || b.Less(a) || a.Less(a) || a != (Wide{Hi: 1 << 16}) {
		t.Error(a, b)
	}
	if !(Wide{5, 1}).Less(Wide{5, 2}) || (Wide{5, 2}).Less(Wide{5, 1}) || (Wide{1, 9}).Less(Wide{1, 5}) || (Wide{2, 0}).Less(Wide{1, 9}) {
		t.Error("Less of equal upper words")
	}
	if !Product(3, 5).Less(Product(2, 8)) || !Product(1<<63-1, 1).Less(Product(1<<62, 4)) {
		t.Error("Less")
	}
}

func TestSmall(t *testing.T) {
	if Sum(0, 0) != 0 || Sum(1, 2) != 3 || Sum(1<<62, 1<<62) != 1<<63-1 || Sum(1<<63-1, 1<<63-1) != 1<<63-1 {
		t.Error("Sum")
	}
	if Abs(-3) != 3 || Abs(3) != 3 || !Within(2, 2, 2) || Within(1, 2, 3) || Within(4, 2, 3) {
		t.Error("Abs, Within")
	}
}
