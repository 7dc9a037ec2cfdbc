package alloc_test

import (
	"math"
	"slices"
	"testing"

	"mailsack/alloc"
)

func count(from, to int) []int {
	var l []int
	for i := from; i < to; i++ {
		l = append(l, i)
	}
	return l
}

func TestP11_1New(t *testing.T) {
	for _, c := range []struct {
		n     int
		taken []int
		free  []int
	}{
		{0, nil, nil}, {0, []int{0, 1}, nil}, {1, nil, []int{0}}, {1, []int{0}, nil}, {3, []int{0}, []int{1, 2}},
		{5, []int{4, 2, 2, 4}, []int{0, 1, 3}}, {4, []int{-1, 4, 5, math.MaxInt, math.MinInt}, count(0, 4)},
		{256, nil, count(0, 256)}, {256, []int{255}, count(0, 255)}, {256, []int{256, -256}, count(0, 256)},
		{3, []int{2, 1, 0, 0, 1, 2}, nil},
	} {
		p := alloc.New(c.n, c.taken)
		if p == nil {
			t.Fatalf("New(%d) = nil", c.n)
		}
		if p.Len() != len(c.free) || !slices.Equal(p.Free(), c.free) {
			t.Errorf("New(%d, %v): %d free: %v", c.n, c.taken, p.Len(), p.Free())
		}
	}
	for _, n := range []int{-1, 257, 1000, math.MinInt, math.MaxInt} {
		if alloc.New(n, nil) != nil {
			t.Errorf("New(%d) is a pool", n)
		}
	}
}

func TestP11_1TakenIsNotKept(t *testing.T) {
	taken := []int{2, 0}
	p := alloc.New(3, taken)
	taken[0] = 1
	if !slices.Equal(p.Free(), []int{1}) || taken[1] != 0 {
		t.Errorf("free: %v", p.Free())
	}
	free := p.Free()
	free[0] = 0
	if n, ok := p.Take(); n != 1 || !ok {
		t.Errorf("Take = %d, %v", n, ok)
	}
}

func TestP11_Nil(t *testing.T) {
	var p *alloc.Pool
	if n, ok := p.Take(); n != 0 || ok {
		t.Errorf("Take = %d, %v", n, ok)
	}
	if p.Give(0) || p.Len() != 0 || len(p.Free()) != 0 {
		t.Error("a nil pool has numbers")
	}
}

func TestP11_2Take(t *testing.T) {
	for _, n := range []int{0, 1, 2, 17, 256} {
		p := alloc.New(n, nil)
		for i := range n {
			if got, ok := p.Take(); got != i || !ok {
				t.Errorf("Take %d of %d = %d, %v", i, n, got, ok)
			}
			if p.Len() != n-i-1 || !slices.Equal(p.Free(), count(i+1, n)) {
				t.Errorf("after Take %d of %d: %d free", i, n, p.Len())
			}
		}
		for range 2 {
			if got, ok := p.Take(); got != 0 || ok {
				t.Errorf("Take of none = %d, %v", got, ok)
			}
		}
	}
}

func TestP11_2Give(t *testing.T) {
	p := alloc.New(4, []int{1, 2})
	for _, n := range []int{0, 3, -1, 4, 256, math.MaxInt, math.MinInt} {
		if p.Give(n) {
			t.Errorf("Give(%d) = true", n)
		}
	}
	if !slices.Equal(p.Free(), []int{0, 3}) {
		t.Errorf("free after what was refused: %v", p.Free())
	}
	if !p.Give(2) || p.Give(2) || !slices.Equal(p.Free(), []int{0, 2, 3}) || p.Len() != 3 {
		t.Errorf("free after Give of 2: %v", p.Free())
	}
}

func TestP11_2Example(t *testing.T) {
	p := alloc.New(3, []int{0})
	if n, ok := p.Take(); n != 1 || !ok {
		t.Errorf("Take = %d, %v", n, ok)
	}
	if !p.Give(0) {
		t.Error("Give of 0 = false")
	}
	if n, ok := p.Take(); n != 0 || !ok {
		t.Errorf("Take = %d, %v", n, ok)
	}
}

// A long run of Take and Give against a plain list.
func TestP11_3Run(t *testing.T) {
	for _, n := range []int{1, 5, 40, 256} {
		p := alloc.New(n, nil)
		free := count(0, n)
		x := uint32(12345 + n)
		for range 3000 {
			x = x*1664525 + 1013904223
			if x>>16%3 == 0 {
				got, ok := p.Take()
				if len(free) == 0 {
					if ok || got != 0 {
						t.Fatalf("Take of none = %d, %v", got, ok)
					}
					continue
				}
				if !ok || got != free[0] {
					t.Fatalf("Take = %d, %v, want %d", got, ok, free[0])
				}
				free = free[1:]
				continue
			}
			number := int(x>>8) % (n + 2)
			at, isFree := slices.BinarySearch(free, number)
			want := number < n && !isFree
			if p.Give(number) != want {
				t.Fatalf("Give(%d) = %v", number, !want)
			}
			if want {
				free = slices.Insert(slices.Clone(free), at, number)
			}
			if p.Len() != len(free) || !slices.Equal(p.Free(), free) {
				t.Fatalf("free: %v, want %v", p.Free(), free)
			}
		}
	}
}

func TestP11_3Pools(t *testing.T) {
	a, b := alloc.New(3, nil), alloc.New(3, nil)
	a.Take()
	if b.Len() != 3 || a.Len() != 2 {
		t.Error("two pools share their numbers")
	}
}
