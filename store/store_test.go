package store_test

import (
	"fmt"
	"slices"
	"strings"
	"testing"

	"mailsack/api"
	"mailsack/disk"
	"mailsack/store"
	"mailsack/wal"
)

func bytesOf(n int, with int) string {
	out := make([]byte, n)
	for i := range out {
		out[i] = byte(i*7 + i/64 + with + 1)
	}
	return string(out)
}

func fill(s string, n int) string {
	return s + strings.Repeat("\x00", n-len(s))
}

func slot(class, block, size int, name string) string {
	return fill(string([]byte{1, byte(class), byte(block), byte(size), byte(size >> 8), byte(len(name))})+name, 64)
}

// blockWrites returns the writes of an object to a block.
func blockWrites(class, block int, s string) []disk.Write {
	first, n := 93+4*block, 4
	if class == 1 {
		first, n = 189+16*block, 16
	}
	s = fill(s, 64*n)
	var l []disk.Write
	for i := range n {
		l = append(l, disk.Write{At: first + i, Data: s[64*i : 64*i+64]})
	}
	return l
}

func put(name, s string) store.Change { return store.Change{Name: name, Data: s} }
func gone(name string) store.Change   { return store.Change{Name: name, Gone: true} }

func apply(t *testing.T, d disk.Disk, l ...store.Change) disk.Disk {
	t.Helper()
	for _, c := range l {
		next, errno := store.Apply(d, []store.Change{c})
		if errno != api.OK {
			t.Fatalf("Apply of %q: %d", c.Name, errno)
		}
		d = next
	}
	return d
}

func equal(a, b disk.Disk) bool {
	return slices.Equal(a.Sectors, b.Sectors) && slices.Equal(a.Cache, b.Cache)
}

func expect(t *testing.T, d disk.Disk, want map[string]string) {
	t.Helper()
	names := store.Names(d)
	if len(names) != len(want) || !slices.IsSorted(names) {
		t.Errorf("Names = %q, want %d", names, len(want))
	}
	for name, s := range want {
		if got, errno := store.Get(d, name); errno != api.OK || got != s {
			t.Errorf("Get(%q) = %d bytes, %d, want %d bytes", name, len(got), errno, len(s))
		}
	}
}

func wrongStores() map[string]disk.Disk {
	short, _ := disk.New(380)
	long, _ := disk.New(382)
	wrong := store.Format()
	wrong.Sectors[380] = "x"
	pending := store.Format()
	pending.Cache = []disk.Write{{At: 381, Data: fill("", 64)}}
	return map[string]disk.Disk{"no disk": {}, "380 sectors": short, "382 sectors": long, "a wrong sector": wrong, "a wrong write": pending}
}

func TestP12_1Format(t *testing.T) {
	d := store.Format()
	want, _ := disk.New(381)
	if store.Sectors != 381 || !equal(d, want) {
		t.Errorf("Format: %d sectors", len(d.Sectors))
	}
	if names := store.Names(d); len(names) != 0 {
		t.Errorf("Names = %q", names)
	}
	d.Sectors[0] = "changed"
	if !equal(store.Format(), want) {
		t.Error("Format returns the same memory twice")
	}
}

func TestP12_1WrongStores(t *testing.T) {
	for what, d := range wrongStores() {
		if names := store.Names(d); len(names) != 0 {
			t.Errorf("%s: Names = %q", what, names)
		}
		if s, errno := store.Get(d, "a"); errno != api.ErrArg || s != "" {
			t.Errorf("%s: Get = %d", what, errno)
		}
		for _, l := range [][]store.Change{nil, {put("a", "x")}, {gone("")}, {put("a", bytesOf(1025, 1))}} {
			if w, errno := store.Writes(d, l); errno != api.ErrArg || len(w) != 0 {
				t.Errorf("%s: Writes = %d", what, errno)
			}
			if a, errno := store.Apply(d, l); errno != api.ErrArg || !equal(a, disk.Disk{}) {
				t.Errorf("%s: Apply = %d", what, errno)
			}
		}
	}
}

// withSlots returns a store whose slots have these contents.
func withSlots(slots map[int]string) disk.Disk {
	d := store.Format()
	for i, s := range slots {
		d.Sectors[61+i] = s
	}
	for at := 93; at < 381; at++ {
		d.Sectors[at] = bytesOf(64, at)
	}
	return d
}

func blockBytes(d disk.Disk, class, block int) string {
	out := ""
	for _, w := range blockWrites(class, block, "") {
		out += d.Sectors[w.At]
	}
	return out
}

func TestP12_1UsedSlots(t *testing.T) {
	long := strings.Repeat("n", 24)
	d := withSlots(map[int]string{
		0: slot(0, 23, 256, "b"), 5: slot(1, 11, 1024, long), 7: slot(0, 0, 0, "a/\x00\xff"), 30: slot(1, 0, 300, "c"), 31: slot(0, 2, 65, "Z"),
	})
	expect(t, d, map[string]string{
		"b": blockBytes(d, 0, 23), long: blockBytes(d, 1, 11), "a/\x00\xff": "", "c": blockBytes(d, 1, 0)[:300], "Z": blockBytes(d, 0, 2)[:65],
	})
	if got := store.Names(d); !slices.Equal(got, []string{"Z", "a/\x00\xff", "b", "c", long}) {
		t.Errorf("Names = %q", got)
	}
}

func TestP12_1UnusedSlots(t *testing.T) {
	right := slot(0, 1, 3, "a")
	for what, s := range map[string]string{
		"zeros":              fill("", 64),
		"another first byte": "\x02" + right[1:],
		"first byte 0":       "\x00" + right[1:],
		"class 2":            slot(2, 1, 3, "a"),
		"class 255":          slot(255, 1, 3, "a"),
		"block 24":           slot(0, 24, 3, "a"),
		"block 12":           slot(1, 12, 3, "a"),
		"block 255":          slot(1, 255, 3, "a"),
		"257 bytes":          slot(0, 1, 257, "a"),
		"1025 bytes":         slot(1, 1, 1025, "a"),
		"65535 bytes":        slot(1, 1, 65535, "a"),
		"no name":            slot(0, 1, 3, ""),
		"25 bytes of name":   slot(0, 1, 3, strings.Repeat("a", 25)),
		"58 bytes of name":   slot(0, 1, 3, strings.Repeat("a", 58)),
		"255 bytes of name":  right[:5] + "\xff" + right[6:],
		"a byte behind":      right[:7] + "\x01" + right[8:],
		"a last byte":        right[:63] + "\x01",
	} {
		d := withSlots(map[int]string{3: s})
		if names := store.Names(d); len(names) != 0 {
			t.Errorf("%s: Names = %q", what, names)
		}
		if got, errno := store.Get(d, "a"); errno != api.ErrNone || got != "" {
			t.Errorf("%s: Get = %d", what, errno)
		}
	}
}

func TestP12_1TwoSlotsOfAName(t *testing.T) {
	d := withSlots(map[int]string{4: slot(0, 3, 10, "a"), 2: slot(0, 7, 20, "a"), 9: slot(1, 1, 500, "b")})
	expect(t, d, map[string]string{"a": blockBytes(d, 0, 7)[:20], "b": blockBytes(d, 1, 1)[:500]})
	d = apply(t, d, gone("a"))
	expect(t, d, map[string]string{"a": blockBytes(d, 0, 3)[:10], "b": blockBytes(d, 1, 1)[:500]})
	d = apply(t, d, gone("a"))
	expect(t, d, map[string]string{"b": blockBytes(d, 1, 1)[:500]})
}

func TestP12_1GetNone(t *testing.T) {
	d := apply(t, store.Format(), put("ab", "x"))
	for _, name := range []string{"", "a", "abc", "AB", "ab\x00", strings.Repeat("a", 100)} {
		if s, errno := store.Get(d, name); errno != api.ErrNone || s != "" {
			t.Errorf("Get(%q) = %q, %d", name, s, errno)
		}
	}
}

// Pending writes are read.
func TestP12_1Cache(t *testing.T) {
	d := store.Format()
	writes, _ := store.Writes(d, []store.Change{put("a", "text")})
	for _, w := range writes {
		d, _ = disk.Put(d, w)
	}
	expect(t, d, map[string]string{"a": "text"})
	after, errno := store.Apply(d, nil)
	if errno != api.OK || !equal(after, disk.Flush(d)) || len(after.Cache) != 0 {
		t.Errorf("Apply of nothing = %d", errno)
	}
}

func TestP12_2Writes(t *testing.T) {
	d := withSlots(map[int]string{0: slot(0, 0, 3, "a"), 1: slot(1, 0, 3, "b"), 3: slot(0, 2, 3, "c")})
	for _, c := range []struct {
		what string
		l    []store.Change
		want [][]disk.Write
	}{
		{"nothing", nil, nil},
		{"a new name", []store.Change{put("n", "text")}, [][]disk.Write{blockWrites(0, 1, "text"), {{At: 63, Data: slot(0, 1, 4, "n")}}}},
		{"an old name", []store.Change{put("c", "text")}, [][]disk.Write{blockWrites(0, 1, "text"), {{At: 64, Data: slot(0, 1, 4, "c")}}}},
		{"an empty object", []store.Change{put("n", "")}, [][]disk.Write{blockWrites(0, 1, ""), {{At: 63, Data: slot(0, 1, 0, "n")}}}},
		{"256 bytes", []store.Change{put("n", bytesOf(256, 1))},
			[][]disk.Write{blockWrites(0, 1, bytesOf(256, 1)), {{At: 63, Data: slot(0, 1, 256, "n")}}}},
		{"257 bytes", []store.Change{put("n", bytesOf(257, 1))},
			[][]disk.Write{blockWrites(1, 1, bytesOf(257, 1)), {{At: 63, Data: slot(1, 1, 257, "n")}}}},
		{"1024 bytes", []store.Change{put("a", bytesOf(1024, 1))},
			[][]disk.Write{blockWrites(1, 1, bytesOf(1024, 1)), {{At: 61, Data: slot(1, 1, 1024, "a")}}}},
		{"deleted", []store.Change{gone("c")}, [][]disk.Write{{{At: 64, Data: fill("", 64)}}}},
		{"deleted, then stored: another block, the same slot", []store.Change{gone("a"), put("x", "1")},
			[][]disk.Write{{{At: 61, Data: fill("", 64)}}, blockWrites(0, 1, "1"), {{At: 61, Data: slot(0, 1, 1, "x")}}}},
		{"stored twice: two blocks, one slot", []store.Change{put("x", "1"), put("x", "2")},
			[][]disk.Write{blockWrites(0, 1, "1"), {{At: 63, Data: slot(0, 1, 1, "x")}}, blockWrites(0, 3, "2"), {{At: 63, Data: slot(0, 3, 1, "x")}}}},
		{"stored, then deleted", []store.Change{put("x", "1"), gone("x"), put("y", "2")},
			[][]disk.Write{blockWrites(0, 1, "1"), {{At: 63, Data: slot(0, 1, 1, "x")}}, {{At: 63, Data: fill("", 64)}},
				blockWrites(0, 3, "2"), {{At: 63, Data: slot(0, 3, 1, "y")}}}},
		{"both classes", []store.Change{put("x", "1"), put("y", bytesOf(300, 2))},
			[][]disk.Write{blockWrites(0, 1, "1"), {{At: 63, Data: slot(0, 1, 1, "x")}}, blockWrites(1, 1, bytesOf(300, 2)), {{At: 65, Data: slot(1, 1, 300, "y")}}}},
	} {
		want := slices.Concat(c.want...)
		got, errno := store.Writes(d, c.l)
		if errno != api.OK || !slices.Equal(got, want) {
			t.Errorf("%s: Writes = %d writes, %d, want %d", c.what, len(got), errno, len(want))
		}
		after, errno := store.Apply(d, c.l)
		commit := disk.Flush(d)
		if len(want) > 0 {
			commit, _ = wal.Commit(d, want)
		}
		if errno != api.OK || !equal(after, commit) {
			t.Errorf("%s: Apply = %d", c.what, errno)
		}
	}
}

func TestP12_2Errors(t *testing.T) {
	d := apply(t, store.Format(), put("a", "x"))
	long := bytesOf(1025, 1)
	name25 := strings.Repeat("n", 25)
	smalls := []store.Change{put("b", ""), put("c", ""), put("d", ""), put("e", ""), put("f", ""), put("g", "")}
	for _, c := range []struct {
		what string
		l    []store.Change
		want api.Errno
	}{
		{"no name", []store.Change{put("", "x")}, api.ErrArg},
		{"25 bytes of name", []store.Change{put(name25, "x")}, api.ErrArg},
		{"no name, deleted", []store.Change{gone("")}, api.ErrArg},
		{"25 bytes of name, deleted", []store.Change{gone(name25)}, api.ErrArg},
		{"no name, long", []store.Change{put("", long)}, api.ErrArg},
		{"none", []store.Change{gone("b")}, api.ErrNone},
		{"none, with long data", []store.Change{{Name: "b", Data: long, Gone: true}}, api.ErrNone},
		{"deleted, with long data", []store.Change{{Name: "a", Data: long, Gone: true}}, api.OK},
		{"deleted twice", []store.Change{gone("a"), gone("a")}, api.ErrNone},
		{"long", []store.Change{put("b", long)}, api.ErrLong},
		{"the first error", []store.Change{put("b", "x"), put("b", long), gone("z"), put("", "")}, api.ErrLong},
		{"the first error again", []store.Change{gone("z"), put("b", long)}, api.ErrNone},
		{"30 writes", smalls, api.OK},
		{"31 writes", append(slices.Clone(smalls), gone("a")), api.ErrLong},
		{"31 writes and an error", append(slices.Clone(smalls), gone("a"), gone("z")), api.ErrNone},
		{"two large ones", []store.Change{put("b", bytesOf(1024, 1)), put("c", bytesOf(1024, 1))}, api.ErrLong},
		{"24 bytes of name", []store.Change{put(name25[1:], "x")}, api.OK},
	} {
		w, errno := store.Writes(d, c.l)
		if errno != c.want || errno != api.OK && len(w) != 0 {
			t.Errorf("%s: Writes = %d writes, %d, want %d", c.what, len(w), errno, c.want)
		}
		if a, errno := store.Apply(d, c.l); errno != c.want || errno != api.OK && !equal(a, disk.Disk{}) {
			t.Errorf("%s: Apply = %d, want %d", c.what, errno, c.want)
		}
	}
}

func TestP12_2Full(t *testing.T) {
	d := store.Format()
	for i := range 24 {
		d = apply(t, d, put(fmt.Sprint("s", i), "x"))
	}
	full := func(what string, want api.Errno, l ...store.Change) {
		t.Helper()
		if _, errno := store.Writes(d, l); errno != want {
			t.Errorf("%s: Writes = %d, want %d", what, errno, want)
		}
	}
	full("no small block", api.ErrFull, put("n", "x"))
	full("no small block for an old name", api.ErrFull, put("s0", "x"))
	full("no small block after a deletion in the same list", api.ErrFull, gone("s3"), put("n", "x"))
	full("a large block", api.OK, put("n", bytesOf(257, 1)))
	for i := range 8 {
		d = apply(t, d, put(fmt.Sprint("l", i), bytesOf(300, i)))
	}
	full("no slot", api.ErrFull, put("n", bytesOf(300, 1)))
	full("too long, and no slot", api.ErrLong, put("n", bytesOf(1025, 1)))
	full("an old name", api.OK, put("l3", bytesOf(300, 1)))
	full("a slot that was deleted in the same list", api.OK, gone("s5"), put("n", bytesOf(300, 1)))
	d = apply(t, d, gone("s9"))
	full("a small block that was freed", api.OK, put("n", "x"))
	full("two of them", api.ErrFull, put("n", "x"), put("n", "x"))

	d = store.Format()
	for i := range 12 {
		d = apply(t, d, put(fmt.Sprint("l", i), bytesOf(1024, i)))
	}
	full("no large block", api.ErrFull, put("n", bytesOf(257, 1)))
	full("a small block beside", api.OK, put("n", "x"))
}

func TestP12_3Apply(t *testing.T) {
	d := store.Format()
	want := map[string]string{}
	for i := range 200 {
		name := fmt.Sprint("name", i*7%20)
		_, there := want[name]
		if there && i%3 == 0 {
			d = apply(t, d, gone(name))
			delete(want, name)
		} else {
			s := bytesOf(i*37%257, i)
			if i%5 == 0 && len(want) < 15 {
				s = bytesOf(257+i, i)
			}
			next, errno := store.Apply(d, []store.Change{put(name, s)})
			if errno == api.ErrFull {
				continue
			}
			if errno != api.OK {
				t.Fatalf("Apply %d: %d", i, errno)
			}
			d = next
			want[name] = s
		}
		expect(t, d, want)
	}
}

func TestP12_3Atomic(t *testing.T) {
	d := apply(t, store.Format(), put("a", "old"), put("b", "other"), put("c", bytesOf(400, 1)))
	l := []store.Change{put("a", "new"), gone("b"), put("d", bytesOf(600, 2))}
	before := map[string]string{"a": "old", "b": "other", "c": bytesOf(400, 1)}
	after := map[string]string{"a": "new", "c": bytesOf(400, 1), "d": bytesOf(600, 2)}
	has := func(d disk.Disk, want map[string]string) bool {
		if len(store.Names(d)) != len(want) {
			return false
		}
		for name, s := range want {
			if got, errno := store.Get(d, name); errno != api.OK || got != s {
				return false
			}
		}
		return true
	}
	done, errno := store.Apply(d, l)
	if errno != api.OK || !has(done, after) || !has(d, before) {
		t.Fatalf("Apply = %d", errno)
	}
	writes, _ := store.Writes(d, l)
	plan, _ := wal.Plan(d, writes)
	for most := range len(plan) + 1 {
		part := wal.Run(d, plan, most)
		for _, keep := range [][]int{nil, {0}, {1, 3, 5, 7, 9, 11, 13, 15, 17, 19, 21}, {0, 2, 4, 6, 8, 10, 12, 14, 16, 18, 20}, {21}} {
			got := wal.Recover(disk.Crash(part, keep))
			if !has(got, before) && !has(got, after) {
				t.Errorf("after %d operations and %v: neither", most, keep)
			}
		}
	}
}
