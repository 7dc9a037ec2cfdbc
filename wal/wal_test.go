package wal_test

import (
	"fmt"
	"math"
	"slices"
	"strings"
	"testing"

	"mailsack/api"
	"mailsack/disk"
	"mailsack/sha"
	"mailsack/wal"
)

func data(with int) string {
	return strings.Repeat(string([]byte{byte(with), byte(with >> 8), 1, 2}), 16)
}

func fill(s string) string {
	return s + strings.Repeat("\x00", 64-len(s))
}

func made(t *testing.T, sectors int) disk.Disk {
	t.Helper()
	d, errno := disk.New(sectors)
	if errno != api.OK {
		t.Fatal(errno)
	}
	for i := 61; i < sectors; i++ {
		d.Sectors[i] = data(1000 + i)
	}
	return d
}

func writesOf(n, sectors int) []disk.Write {
	var l []disk.Write
	for i := range n {
		l = append(l, disk.Write{At: 61 + (i*7)%(sectors-61), Data: data(i)})
	}
	return l
}

func number(n int) string {
	return fill(string([]byte{byte(n), byte(n >> 8), byte(n >> 16), byte(n >> 24)}))
}

func entriesOf(l []disk.Write) []string {
	var out []string
	for _, w := range l {
		out = append(out, number(w.At), w.Data)
	}
	return out
}

func header(entries []string) string {
	return fill(string([]byte{74, byte(len(entries) / 2)}) + sha.Sum(strings.Join(entries, "")))
}

func wantPlan(l []disk.Write) []wal.Op {
	var ops []wal.Op
	put := func(at int, s string) { ops = append(ops, wal.Op{Write: disk.Write{At: at, Data: s}}) }
	flush := func() { ops = append(ops, wal.Op{Flush: true}) }
	for i, s := range entriesOf(l) {
		put(1+i, s)
	}
	flush()
	put(0, header(entriesOf(l)))
	flush()
	for _, w := range l {
		put(w.At, w.Data)
	}
	flush()
	put(0, fill(""))
	flush()
	return ops
}

func wantRepair(l []disk.Write, valid bool) []wal.Op {
	var ops []wal.Op
	if valid {
		for _, w := range l {
			ops = append(ops, wal.Op{Write: w})
		}
		ops = append(ops, wal.Op{Flush: true})
	}
	return append(ops, wal.Op{Write: disk.Write{At: 0, Data: fill("")}}, wal.Op{Flush: true})
}

// journal returns a disk whose journal contains these sectors, from sector 0 on.
func journal(t *testing.T, sectors int, first string, entries []string) disk.Disk {
	d := made(t, sectors)
	d.Sectors[0] = first
	copy(d.Sectors[1:61], entries)
	return d
}

func equal(a, b disk.Disk) bool {
	return slices.Equal(a.Sectors, b.Sectors) && slices.Equal(a.Cache, b.Cache)
}

func TestP10_1Plan(t *testing.T) {
	d := made(t, 400)
	for _, n := range []int{1, 2, 3, 10, 29, 30} {
		l := writesOf(n, 400)
		got, errno := wal.Plan(d, l)
		if errno != api.OK || !slices.Equal(got, wantPlan(l)) {
			t.Errorf("Plan of %d writes: %d operations, %d", n, len(got), errno)
		}
	}
	l := []disk.Write{{At: 61, Data: data(1)}, {At: 61, Data: data(2)}, {At: 1023, Data: data(3)}, {At: 256, Data: data(4)}}
	if got, errno := wal.Plan(made(t, 1024), l); errno != api.OK || !slices.Equal(got, wantPlan(l)) {
		t.Errorf("Plan of writes at the edges: %d", errno)
	}
	if got, _ := wal.Plan(d, writesOf(1, 400)); len(got) != 9 {
		t.Errorf("a plan of one write has %d operations", len(got))
	}
}

func TestP10_1PlanErrors(t *testing.T) {
	d := made(t, 62)
	right := disk.Write{At: 61, Data: data(1)}
	invalid := made(t, 62)
	invalid.Sectors[5] = "short"
	pending := made(t, 62)
	pending.Cache = []disk.Write{{At: 62, Data: data(1)}}
	many := slices.Repeat([]disk.Write{right}, 31)
	for _, c := range []struct {
		what string
		d    disk.Disk
		l    []disk.Write
		want api.Errno
	}{
		{"no disk", disk.Disk{}, []disk.Write{right}, api.ErrArg},
		{"a wrong sector", invalid, []disk.Write{right}, api.ErrArg},
		{"a wrong pending write", pending, []disk.Write{right}, api.ErrArg},
		{"61 sectors", made(t, 61), []disk.Write{{At: 60, Data: data(1)}}, api.ErrArg},
		{"61 sectors, at 61", made(t, 61), []disk.Write{right}, api.ErrArg},
		{"nothing", d, nil, api.ErrArg},
		{"an empty list", d, []disk.Write{}, api.ErrArg},
		{"at 60", d, []disk.Write{{At: 60, Data: data(1)}}, api.ErrArg},
		{"at 0", d, []disk.Write{{At: 0, Data: data(1)}}, api.ErrArg},
		{"at -1", d, []disk.Write{{At: -1, Data: data(1)}}, api.ErrArg},
		{"at 62", d, []disk.Write{right, {At: 62, Data: data(1)}}, api.ErrArg},
		{"far beyond", d, []disk.Write{{At: math.MaxInt, Data: data(1)}}, api.ErrArg},
		{"short", d, []disk.Write{{At: 61, Data: data(1)[:63]}}, api.ErrArg},
		{"long", d, []disk.Write{right, {At: 61, Data: data(1) + "x"}}, api.ErrArg},
		{"31", d, many, api.ErrLong},
		{"31, on a wrong disk", invalid, many, api.ErrArg},
		{"31, one wrong", d, append(slices.Clone(many), disk.Write{At: 3, Data: data(1)}), api.ErrArg},
		{"31, one short", d, append(slices.Clone(many), disk.Write{At: 61}), api.ErrArg},
	} {
		if got, errno := wal.Plan(c.d, c.l); errno != c.want || len(got) != 0 {
			t.Errorf("%s: Plan = %d operations, %d", c.what, len(got), errno)
		}
		if got, errno := wal.Commit(c.d, c.l); errno != c.want || !equal(got, disk.Disk{}) {
			t.Errorf("%s: Commit = %d", c.what, errno)
		}
	}
}

func TestP10_1Repair(t *testing.T) {
	l := writesOf(5, 100)
	entries := entriesOf(l)
	good := header(entries)
	zeros := fill("")
	withCount := func(n int) string { return string([]byte{74, byte(n)}) + good[2:] }
	many := entriesOf(writesOf(30, 100))
	for _, c := range []struct {
		what    string
		first   string
		entries []string
		want    []wal.Op
	}{
		{"no header", zeros, entries, nil},
		{"another first byte", "\x4b" + good[1:], entries, nil},
		{"a valid header", good, entries, wantRepair(l, true)},
		{"30 entries", header(many), many, wantRepair(writesOf(30, 100), true)},
		{"a mark alone", "\x4a" + zeros[1:], entries, wantRepair(nil, false)},
		{"no entries", header(nil), nil, wantRepair(nil, false)},
		{"fewer entries", withCount(4), entries, wantRepair(nil, false)},
		{"more entries", withCount(6), entries, wantRepair(nil, false)},
		{"31 entries", withCount(31), entries, wantRepair(nil, false)},
		{"255 entries", withCount(255), entries, wantRepair(nil, false)},
		{"a wrong digest", good[:2] + "x" + good[3:], entries, wantRepair(nil, false)},
		{"a digest wrong at its end", good[:33] + string([]byte{good[33] ^ 1}) + good[34:], entries, wantRepair(nil, false)},
		{"a byte behind the digest", good[:34] + "\x01" + good[35:], entries, wantRepair(nil, false)},
		{"a last byte", good[:63] + "\x01", entries, wantRepair(nil, false)},
	} {
		if got := wal.Repair(journal(t, 100, c.first, c.entries)); !slices.Equal(got, c.want) {
			t.Errorf("%s: Repair = %d operations, want %d", c.what, len(got), len(c.want))
		}
	}
	for at := range 10 {
		changed := slices.Clone(entries)
		changed[at] = string([]byte{changed[at][0] ^ 1}) + changed[at][1:]
		if got := wal.Repair(journal(t, 400, good, changed)); !slices.Equal(got, wantRepair(nil, false)) {
			t.Errorf("entry sector %d changed: %d operations", at, len(got))
		}
	}
}

// Destinations outside of what may be written make the header invalid, even if the digest is right.
func TestP10_1RepairDestinations(t *testing.T) {
	for at, valid := range map[int]bool{
		61: true, 99: true, 60: false, 0: false, 1: false, 100: false, 1 << 16: false, 1<<24 + 61: false, 1<<32 - 1: false, 1 << 31: false,
	} {
		l := []disk.Write{{At: 70, Data: data(3)}, {At: at, Data: data(4)}}
		entries := entriesOf(l)
		if got := wal.Repair(journal(t, 100, header(entries), entries)); !slices.Equal(got, wantRepair(l, valid)) {
			t.Errorf("destination %d: %d operations", at, len(got))
		}
	}
}

// Journals of one entry, and with destinations of more than one byte.
func TestP10_1RepairOfFewEntries(t *testing.T) {
	for _, l := range [][]disk.Write{
		{{At: 61, Data: data(1)}}, {{At: 1023, Data: data(2)}}, {{At: 256, Data: data(3)}, {At: 767, Data: data(4)}},
	} {
		entries := entriesOf(l)
		d := journal(t, 1024, header(entries), entries)
		if got := wal.Repair(d); !slices.Equal(got, wantRepair(l, true)) {
			t.Errorf("%d entries, the first at %d: %d operations", len(l), l[0].At, len(got))
		}
		if got := wal.Recover(d); got.Sectors[l[0].At] != l[0].Data {
			t.Errorf("%d entries, the first at %d: Recover", len(l), l[0].At)
		}
	}
}

func TestP10_1RepairOfNoJournal(t *testing.T) {
	l := []disk.Write{{At: 61, Data: data(3)}}
	entries := entriesOf(l)
	small := journal(t, 61, header(entries), entries)
	if got := wal.Repair(small); len(got) != 0 {
		t.Errorf("61 sectors: %d operations", len(got))
	}
	if !equal(wal.Recover(small), small) {
		t.Error("61 sectors: Recover changes them")
	}
	wrong := journal(t, 70, header(entries), entries)
	wrong.Sectors[69] = "short"
	if got := wal.Repair(wrong); len(got) != 0 || !equal(wal.Recover(wrong), wrong) {
		t.Errorf("a wrong disk: %d operations", len(got))
	}
	if got := wal.Repair(disk.Disk{}); len(got) != 0 {
		t.Errorf("no disk: %d operations", len(got))
	}
	if got := wal.Repair(made(t, 62)); len(got) != 0 {
		t.Errorf("zero bytes: %d operations", len(got))
	}
}

// The journal is what is read: pending writes count.
func TestP10_1RepairReadsTheCache(t *testing.T) {
	l := writesOf(2, 100)
	d := made(t, 100)
	for i, s := range append([]string{header(entriesOf(l))}, entriesOf(l)...) {
		d, _ = disk.Put(d, disk.Write{At: i, Data: s})
	}
	if got := wal.Repair(d); !slices.Equal(got, wantRepair(l, true)) {
		t.Errorf("Repair of a pending journal: %d operations", len(got))
	}
	d, _ = disk.Put(d, disk.Write{At: 0, Data: fill("")})
	if got := wal.Repair(d); len(got) != 0 {
		t.Errorf("Repair of a pending header of zeros: %d operations", len(got))
	}
}

func TestP10_1Run(t *testing.T) {
	d := made(t, 64)
	ops := []wal.Op{
		{Write: disk.Write{At: 61, Data: data(1)}},
		{Write: disk.Write{At: 99, Data: data(2)}},
		{Write: disk.Write{At: 62, Data: "short"}},
		{Write: disk.Write{At: 3, Data: data(3)}},
		{Flush: true, Write: disk.Write{At: 63, Data: data(9)}},
		{Write: disk.Write{At: 62, Data: data(4)}},
	}
	cached := []disk.Write{{At: 61, Data: data(1)}, {At: 3, Data: data(3)}}
	for _, c := range []struct {
		most  int
		at61  int
		cache []disk.Write
	}{
		{0, 1061, nil}, {-1, 1061, nil}, {math.MinInt, 1061, nil}, {1, 1061, cached[:1]}, {2, 1061, cached[:1]}, {3, 1061, cached[:1]},
		{4, 1061, cached}, {5, 1, nil}, {6, 1, []disk.Write{{At: 62, Data: data(4)}}},
		{7, 1, []disk.Write{{At: 62, Data: data(4)}}}, {math.MaxInt, 1, []disk.Write{{At: 62, Data: data(4)}}},
	} {
		got := wal.Run(d, ops, c.most)
		if got.Sectors[61] != data(c.at61) || !slices.Equal(got.Cache, c.cache) || got.Sectors[63] != data(1063) {
			t.Errorf("Run of %d: %d pending", c.most, len(got.Cache))
		}
		if c.most >= 5 && got.Sectors[3] != data(3) {
			t.Errorf("Run of %d: sector 3", c.most)
		}
	}
	if !equal(d, made(t, 64)) {
		t.Error("Run changes its argument")
	}
	wrong := disk.Disk{Sectors: []string{"short"}, Cache: []disk.Write{{At: 5}}}
	if got := wal.Run(wrong, ops, 6); !equal(got, wrong) {
		t.Error("Run changes a wrong disk")
	}
}

func TestP10_1Commit(t *testing.T) {
	for _, n := range []int{1, 7, 30} {
		d := made(t, 120)
		d.Cache = []disk.Write{{At: 119, Data: data(77)}}
		l := writesOf(n, 120)
		got, errno := wal.Commit(d, l)
		plan := wantPlan(l)
		want := wal.Run(d, plan, len(plan))
		if errno != api.OK || !equal(got, want) || len(got.Cache) != 0 {
			t.Errorf("Commit of %d = %d", n, errno)
		}
		for _, w := range l {
			if n == 1 && got.Sectors[w.At] != w.Data {
				t.Errorf("Commit of %d: sector %d", n, w.At)
			}
		}
		if got.Sectors[0] != fill("") || len(d.Cache) != 1 {
			t.Errorf("Commit of %d: header or argument", n)
		}
	}
}

func TestP10_1Recover(t *testing.T) {
	l := writesOf(4, 90)
	entries := entriesOf(l)
	d := journal(t, 90, header(entries), entries)
	got := wal.Recover(d)
	repair := wantRepair(l, true)
	if !equal(got, wal.Run(d, repair, len(repair))) || got.Sectors[0] != fill("") || len(got.Cache) != 0 {
		t.Error("Recover is not the repair")
	}
	for _, w := range l {
		if got.Sectors[w.At] != w.Data {
			t.Errorf("Recover: sector %d", w.At)
		}
	}
	broken := journal(t, 90, header(entries)[:40]+fill("x")[:24], entries)
	got = wal.Recover(broken)
	if got.Sectors[0] != fill("") || !slices.Equal(got.Sectors[61:], broken.Sectors[61:]) {
		t.Error("Recover of an invalid header")
	}
}

// keeps returns choices of pending writes: none, all, each alone, all but each, and alternating ones.
func keeps(n int) [][]int {
	all := make([]int, n)
	for i := range all {
		all[i] = i
	}
	out := [][]int{nil, all}
	for i := range n {
		out = append(out, []int{i}, append(slices.Clone(all[:i]), all[i+1:]...))
	}
	var even []int
	for i := 0; i < n; i += 2 {
		even = append(even, i)
	}
	return append(out, even)
}

func TestP10_2Atomic(t *testing.T) {
	for _, n := range []int{1, 3, 6} {
		d := made(t, 70)
		d.Sectors[2] = data(5) // what an earlier transaction left in the journal
		l := writesOf(n, 70)
		plan, _ := wal.Plan(d, l)
		after, _ := wal.Commit(d, l)
		check := func(what string, got disk.Disk) {
			t.Helper()
			old, done := slices.Equal(got.Sectors[61:], d.Sectors[61:]), slices.Equal(got.Sectors[61:], after.Sectors[61:])
			if !old && !done || len(got.Cache) != 0 || got.Sectors[0][0] == 74 {
				t.Errorf("%s: neither all nor nothing", what)
			}
		}
		for most := range len(plan) + 1 {
			part := wal.Run(d, plan, most)
			for i, keep := range keeps(len(part.Cache)) {
				crashed := disk.Crash(part, keep)
				check(fmt.Sprint(n, " writes, ", most, " operations, choice ", i), wal.Recover(crashed))
				repair := wal.Repair(crashed)
				for k := range len(repair) + 1 {
					again := wal.Run(crashed, repair, k)
					for _, keep := range keeps(len(again.Cache)) {
						check(fmt.Sprint(n, " writes, ", most, " operations, choice ", i, ", repaired ", k), wal.Recover(disk.Crash(again, keep)))
					}
				}
			}
		}
	}
}
