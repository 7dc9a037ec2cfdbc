package disk_test

import (
	"math"
	"slices"
	"strings"
	"testing"

	"mailsack/api"
	"mailsack/disk"
)

func data(with int) string {
	return strings.Repeat(string([]byte{byte(with)}), 64)
}

func clone(d disk.Disk) disk.Disk {
	return disk.Disk{Sectors: slices.Clone(d.Sectors), Cache: slices.Clone(d.Cache)}
}

func equal(a, b disk.Disk) bool {
	return slices.Equal(a.Sectors, b.Sectors) && slices.Equal(a.Cache, b.Cache)
}

// made returns a disk of so many sectors with pending writes.
func made(t *testing.T, sectors int, writes ...disk.Write) disk.Disk {
	t.Helper()
	d, errno := disk.New(sectors)
	if errno != api.OK {
		t.Fatalf("New(%d): %d", sectors, errno)
	}
	for i := range d.Sectors {
		d.Sectors[i] = data(100 + i)
	}
	d.Cache = writes
	return d
}

func wrongDisks() map[string]disk.Disk {
	good := func() []string { return []string{data(1), data(2)} }
	return map[string]disk.Disk{
		"no sectors":         {},
		"a cache alone":      {Cache: []disk.Write{{At: 0, Data: data(1)}}},
		"too many sectors":   {Sectors: slices.Repeat([]string{data(1)}, 1025)},
		"a short sector":     {Sectors: []string{data(1), data(2)[:63]}},
		"a long sector":      {Sectors: []string{data(1) + "x", data(2)}},
		"an empty sector":    {Sectors: []string{data(1), ""}},
		"a write below":      {Sectors: good(), Cache: []disk.Write{{At: -1, Data: data(3)}}},
		"a write above":      {Sectors: good(), Cache: []disk.Write{{At: 0, Data: data(3)}, {At: 2, Data: data(3)}}},
		"a short write":      {Sectors: good(), Cache: []disk.Write{{At: 1, Data: data(3)[:63]}}},
		"a long write":       {Sectors: good(), Cache: []disk.Write{{At: 1, Data: data(3) + "x"}, {At: 0, Data: data(3)}}},
		"a write far beyond": {Sectors: good(), Cache: []disk.Write{{At: math.MaxInt, Data: data(3)}}},
	}
}

func TestP9_1New(t *testing.T) {
	for _, n := range []int{1, 2, 61, 381, 1023, 1024} {
		d, errno := disk.New(n)
		if errno != api.OK || len(d.Sectors) != n || len(d.Cache) != 0 || !disk.Right(d) {
			t.Errorf("New(%d): %d sectors, %d", n, len(d.Sectors), errno)
		}
		for at := range n {
			if s, errno := disk.Read(d, at); errno != api.OK || s != data(0) {
				t.Fatalf("New(%d): sector %d is %x, %d", n, at, s, errno)
			}
		}
	}
	for _, n := range []int{0, -1, 1025, math.MinInt, math.MaxInt} {
		if d, errno := disk.New(n); errno != api.ErrArg || len(d.Sectors) != 0 || len(d.Cache) != 0 {
			t.Errorf("New(%d): %d sectors, %d", n, len(d.Sectors), errno)
		}
	}
}

func TestP9_1Right(t *testing.T) {
	for what, d := range wrongDisks() {
		if disk.Right(d) {
			t.Errorf("%s: valid", what)
		}
	}
	for _, d := range []disk.Disk{
		made(t, 1), made(t, 1024), made(t, 2, disk.Write{At: 0, Data: data(1)}, disk.Write{At: 1, Data: data(1)}),
	} {
		if !disk.Right(d) {
			t.Errorf("a disk of %d sectors and %d writes is not valid", len(d.Sectors), len(d.Cache))
		}
	}
}

func TestP9_1WrongDisks(t *testing.T) {
	for what, d := range wrongDisks() {
		before := clone(d)
		for _, at := range []int{0, 1, -1} {
			if s, errno := disk.Read(d, at); errno != api.ErrArg || s != "" {
				t.Errorf("%s: Read = %q, %d", what, s, errno)
			}
		}
		if p, errno := disk.Put(d, disk.Write{At: 0, Data: data(9)}); errno != api.ErrArg || !equal(p, disk.Disk{}) {
			t.Errorf("%s: Put = %d", what, errno)
		}
		if f := disk.Flush(d); !equal(f, before) {
			t.Errorf("%s: Flush changes it", what)
		}
		if c := disk.Crash(d, []int{0, 1}); !equal(c, before) {
			t.Errorf("%s: Crash changes it", what)
		}
	}
}

func TestP9_2Read(t *testing.T) {
	d := made(t, 4, disk.Write{At: 1, Data: data(1)}, disk.Write{At: 2, Data: data(2)}, disk.Write{At: 1, Data: data(3)})
	for at, want := range []string{data(100), data(3), data(2), data(103)} {
		if s, errno := disk.Read(d, at); errno != api.OK || s != want {
			t.Errorf("Read(%d) = %x, %d", at, s, errno)
		}
	}
	for _, at := range []int{-1, 4, 5, math.MinInt, math.MaxInt} {
		if s, errno := disk.Read(d, at); errno != api.ErrArg || s != "" {
			t.Errorf("Read(%d) = %x, %d", at, s, errno)
		}
	}
}

func TestP9_2Put(t *testing.T) {
	d := made(t, 3, disk.Write{At: 1, Data: data(1)})
	before := clone(d)
	p, errno := disk.Put(d, disk.Write{At: 2, Data: data(2)})
	want := []disk.Write{{At: 1, Data: data(1)}, {At: 2, Data: data(2)}}
	if errno != api.OK || !slices.Equal(p.Cache, want) || !slices.Equal(p.Sectors, d.Sectors) {
		t.Errorf("Put = %v, %d", p.Cache, errno)
	}
	if !equal(d, before) {
		t.Error("Put changes its argument")
	}
	for _, w := range []disk.Write{
		{At: -1, Data: data(2)}, {At: 3, Data: data(2)}, {At: math.MaxInt, Data: data(2)}, {At: math.MinInt, Data: data(2)},
		{At: 0, Data: ""}, {At: 0, Data: data(2)[:63]}, {At: 0, Data: data(2) + "x"},
	} {
		if p, errno := disk.Put(d, w); errno != api.ErrArg || !equal(p, disk.Disk{}) {
			t.Errorf("Put at %d of %d bytes = %d", w.At, len(w.Data), errno)
		}
	}
}

// Two disks that grow from the same one do not meet.
func TestP9_2PutTwice(t *testing.T) {
	d, _ := disk.New(3)
	for i := range 9 {
		d, _ = disk.Put(d, disk.Write{At: i % 3, Data: data(i)})
		one, _ := disk.Put(d, disk.Write{At: 0, Data: data(50)})
		two, _ := disk.Put(d, disk.Write{At: 0, Data: data(60)})
		a, _ := disk.Read(one, 0)
		b, _ := disk.Read(two, 0)
		if a != data(50) || b != data(60) {
			t.Errorf("after %d writes: %x and %x", i+1, a[0], b[0])
		}
	}
}

func TestP9_2Flush(t *testing.T) {
	d := made(t, 3, disk.Write{At: 1, Data: data(1)}, disk.Write{At: 1, Data: data(2)}, disk.Write{At: 0, Data: data(3)})
	before := clone(d)
	f := disk.Flush(d)
	if !equal(f, disk.Disk{Sectors: []string{data(3), data(2), data(102)}}) {
		t.Errorf("Flush = %v", f)
	}
	if !equal(d, before) {
		t.Error("Flush changes its argument")
	}
}

func TestP9_2Crash(t *testing.T) {
	writes := []disk.Write{{At: 1, Data: data(1)}, {At: 0, Data: data(2)}, {At: 1, Data: data(3)}, {At: 2, Data: data(4)}}
	for _, c := range []struct {
		keep []int
		want [3]int
	}{
		{nil, [3]int{100, 101, 102}}, {[]int{0}, [3]int{100, 1, 102}}, {[]int{1}, [3]int{2, 101, 102}},
		{[]int{2}, [3]int{100, 3, 102}}, {[]int{3}, [3]int{100, 101, 4}}, {[]int{0, 2}, [3]int{100, 3, 102}},
		{[]int{2, 0}, [3]int{100, 3, 102}}, {[]int{0, 0, 2, 2, 0}, [3]int{100, 3, 102}},
		{[]int{3, 2, 1, 0}, [3]int{2, 3, 4}}, {[]int{-1, 4, 5, math.MaxInt, math.MinInt}, [3]int{100, 101, 102}},
		{[]int{-1, 1, 4}, [3]int{2, 101, 102}},
	} {
		d := made(t, 3, slices.Clone(writes)...)
		before := clone(d)
		got := disk.Crash(d, c.keep)
		want := disk.Disk{Sectors: []string{data(c.want[0]), data(c.want[1]), data(c.want[2])}}
		if !equal(got, want) {
			t.Errorf("Crash that keeps %v: sectors start with %d %d %d, %d pending", c.keep,
				got.Sectors[0][0], got.Sectors[1][0], got.Sectors[2][0], len(got.Cache))
		}
		if !equal(d, before) {
			t.Errorf("Crash that keeps %v changes its argument", c.keep)
		}
	}
}

func TestP9_3(t *testing.T) {
	d := made(t, 4)
	for i := range 12 {
		d, _ = disk.Put(d, disk.Write{At: (i * 3) % 4, Data: data(i)})
		f := disk.Flush(d)
		for at := range 4 {
			a, _ := disk.Read(d, at)
			b, _ := disk.Read(f, at)
			if a != b {
				t.Errorf("a flush changes sector %d", at)
			}
		}
		if !equal(disk.Crash(f, nil), f) || !equal(disk.Crash(f, []int{0, 1, 2}), f) {
			t.Error("a crash after a flush changes something")
		}
		all := make([]int, len(d.Cache))
		for i := range all {
			all[i] = i
		}
		if !equal(disk.Crash(d, all), f) {
			t.Error("a crash that keeps all writes is no flush")
		}
	}
	e, _ := disk.New(2)
	e, _ = disk.Put(e, disk.Write{At: 1, Data: data(7)})
	if s, errno := disk.Read(disk.Crash(e, nil), 1); errno != api.OK || s != data(0) {
		t.Errorf("after a crash that keeps none, sector 1 is %x, %d", s, errno)
	}
}
