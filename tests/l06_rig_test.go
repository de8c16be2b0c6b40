package tests

import (
	"fmt"
	"math"
	"slices"
	"strings"
	"testing"

	"loop.example/g03017/impl"
)

func pump(name string, most int) impl.Device {
	return impl.Device{Name: name, Kind: 1, Most: most}
}

func nozzle(name, line string, x, y, heading, tilt, most int) impl.Device {
	return impl.Device{Name: name, Kind: 2, Line: line, At: at(x, y), Heading: heading, Tilt: tilt, Most: most}
}

func lamp(name, line string, x, y int) impl.Device {
	return impl.Device{Name: name, Kind: 3, Line: line, At: at(x, y)}
}

func rig(devices ...impl.Device) []impl.Device {
	return devices
}

func TestLimitsOfRigs(t *testing.T) {
	if impl.MaxDevices != 8 || impl.KindPump != 1 || impl.KindNozzle != 2 || impl.KindLamp != 3 {
		t.Error(impl.MaxDevices, impl.KindPump, impl.KindNozzle, impl.KindLamp)
	}
}

func someDevices() []impl.Device {
	l := []impl.Device{
		pump("p", 0), pump("p", 1), pump("p", 100), pump("p0", 511), pump("abcdefgh", 512),
		nozzle("a", "p", 8, 16, 3, 4, 32), nozzle("a", "p", 0, 0, 0, 0, 0), nozzle("a", "a0", 1, 0, 1, 1, 31), nozzle("a0", "a", 0, 1, 2, 15, 1), nozzle("abcdefgh", "abcdefgi", -7, 5, 2, 16, 32),
		nozzle("a", "p", 1024, 1024, 0, 16, 32), nozzle("a", "p", -1024, 1024, 1, 0, 0), nozzle("a", "p", -1024, -1024, 2, 16, 5), nozzle("a", "p", 1024, -1024, 3, 8, 8), nozzle("a", "p", -1023, 1023, 3, 1, 1),
		// Words that the texts of devices have are names as well.
		pump("pump", 7), nozzle("on", "at", 0, 0, 0, 0, 1), nozzle("nozzle", "pump", -1, -1, 0, 0, 1), lamp("lamp", "nozzle", 2, 2), lamp("most", "heading", 0, 0),
		lamp("abcdefgh", "abcdefgi", 1025, -1025), lamp("z9", "z", 0, 1),
	}
	for _, p := range somePlaces() {
		l = append(l, lamp("z", "a", p.X, p.Y))
	}
	return l
}

func noNames() []string {
	return []string{"", " ", "0", "9a", "A", "aB", "a b", " a", "a ", "a-b", "_a", "a\x00", "a\n", "abcdefghi", "é", "a`", "a{", "a/", "a:"}
}

func beyondTilts() []int {
	return append(beyondMeasures(), -1, -2, -16, 17, 32, 256, 1<<32+4)
}

// noDevices has devices of each kind with one fault each, of no kind, and with several faults.
func noDevices() []impl.Device {
	p, n, m := pump("p", 8), nozzle("a", "p", 8, -16, 1, 2, 3), lamp("z", "a", 8, -16)
	l := append(devicesOfNoKind(p, n, m), impl.Device{}, impl.Device{Kind: 1}, impl.Device{Kind: 2}, impl.Device{Kind: 3}, impl.Device{Name: "a"}, impl.Device{Name: "a", Kind: 2}, impl.Device{Name: "a", Kind: 3})
	for _, name := range noNames() {
		l = append(l, pump(name, 8), nozzle(name, "p", 0, 0, 0, 0, 1), lamp(name, "a", 0, 0), nozzle("a", name, 0, 0, 0, 0, 1), lamp("z", name, 0, 0))
	}
	for _, line := range append(noNames()[1:], "p", "q", "a") {
		d := p
		d.Line = line
		l = append(l, d)
	}
	l = append(l, nozzle("a", "a", 0, 0, 0, 0, 1), nozzle("abcdefgh", "abcdefgh", 0, 0, 0, 0, 1), lamp("z", "z", 0, 0), lamp("z9", "z9", 0, 0))
	return append(l, devicesBeyondLimits()...)
}

func devicesOfNoKind(devices ...impl.Device) []impl.Device {
	var l []impl.Device
	for _, d := range append(devices, impl.Device{Name: "a"}, impl.Device{Name: "a", Line: "b"}) {
		for _, kind := range []int{0, 4, 5, 6, 7, -1, -2, -3, 257, 258, 259, 1<<32 + 1, 1<<32 + 2, 1<<32 + 3, math.MaxInt, math.MinInt, math.MinInt + 1, math.MinInt + 2} {
			d.Kind = kind
			l = append(l, d)
		}
	}
	return l
}

func devicesBeyondLimits() []impl.Device {
	var l []impl.Device
	for _, most := range append(beyondMeasures(), -1, -2, -512, 513, 514, 1024, 4096, 1<<32+8) {
		l = append(l, pump("p", most))
	}
	for _, most := range append(beyondMeasures(), -1, -2, -32, 33, 34, 64, 512, 1<<32+8) {
		l = append(l, nozzle("a", "p", 0, 0, 0, 0, most))
	}
	for _, x := range append(beyondMeasures(), 1025, -1025, 4096, -4096, 1<<32+8) {
		l = append(l, nozzle("a", "p", x, 0, 0, 0, 1), nozzle("a", "p", 0, x, 0, 0, 1), nozzle("a", "p", x, -1024, 3, 16, 32), nozzle("a", "p", 1024, x, 3, 16, 32))
	}
	for _, heading := range noHeadings() {
		l = append(l, nozzle("a", "p", 0, 0, heading, 0, 1), nozzle("a", "p", 8, 8, heading, 16, 32))
	}
	for _, tilt := range beyondTilts() {
		l = append(l, nozzle("a", "p", 0, 0, 0, tilt, 1), nozzle("a", "p", 8, 8, 3, tilt, 32))
	}
	for _, p := range noPlaces() {
		l = append(l, lamp("z", "a", p.X, p.Y))
	}
	return append(l, devicesWithOtherFields()...)
}

// devicesWithOtherFields has pumps and lamps of which one field is not 0 that is not named for them.
func devicesWithOtherFields() []impl.Device {
	var l []impl.Device
	for _, x := range []int{1, -1, 2, 8, 1 << 32, math.MaxInt, math.MinInt} {
		p, m := pump("p", 8), lamp("z", "a", 8, 8)
		p.At, m.Heading = at(x, 0), x
		l = append(l, p, m)
		p, m = pump("p", 8), lamp("z", "a", 8, 8)
		p.At, m.Tilt = at(0, x), x
		l = append(l, p, m)
		p, m = pump("p", 8), lamp("z", "a", 8, 8)
		p.Heading, m.Most = x, x
		l = append(l, p, m)
		p = pump("p", 8)
		p.Tilt = x
		l = append(l, p)
	}
	return l
}

func isNameByHand(s string) bool {
	return s != "" && len(s) <= 8 && strings.Trim(s, "abcdefghijklmnopqrstuvwxyz0123456789") == "" && strings.IndexByte("0123456789", s[0]) < 0
}

func within(x, least, most int) bool {
	return least <= x && x <= most
}

// deviceByHand asks for each field of each kind.
func deviceByHand(d impl.Device) bool {
	named := isNameByHand(d.Name)
	hangs := isNameByHand(d.Line) && d.Line != d.Name
	switch d.Kind {
	case 1:
		return named && d.Line == "" && d.At.X == 0 && d.At.Y == 0 && d.Heading == 0 && d.Tilt == 0 && within(d.Most, 0, 512)
	case 2:
		return named && hangs && within(d.At.X, -1024, 1024) && within(d.At.Y, -1024, 1024) && within(d.Heading, 0, 3) && within(d.Tilt, 0, 16) && within(d.Most, 0, 32)
	case 3:
		return named && hangs && isMeasureByHand(d.At.X) && isMeasureByHand(d.At.Y) && d.Heading == 0 && d.Tilt == 0 && d.Most == 0
	}
	return false
}

// deviceGrid has each combination of fields at, within and beyond the limits of some kind.
func deviceGrid() []impl.Device {
	var l []impl.Device
	for kind := -1; kind <= 4; kind++ {
		for _, line := range []string{"", "a", "b", "B"} {
			for _, p := range []impl.Place{at(0, 0), at(1, 0), at(0, -1), at(1024, -1024), at(1025, 0), at(0, -1025), at(4096, -4096), at(4097, 0), at(0, -4097)} {
				for _, heading := range []int{-1, 0, 1, 3, 4} {
					for _, tilt := range []int{-1, 0, 1, 16, 17} {
						for _, most := range []int{-1, 0, 1, 32, 33, 512, 513} {
							l = append(l, impl.Device{Name: "a", Kind: kind, Line: line, At: p, Heading: heading, Tilt: tilt, Most: most})
						}
					}
				}
			}
		}
	}
	return l
}

func TestIsDevice(t *testing.T) {
	checkReport(t, "IsDevice", impl.IsDevice, someDevices(), noDevices())
}

func TestIsDeviceOfEachField(t *testing.T) {
	for _, d := range slices.Concat(deviceGrid(), someDevices(), noDevices()) {
		if got, want := impl.IsDevice(d), deviceByHand(d); got != want {
			t.Errorf("IsDevice(%+v) is %t", d, got)
		}
	}
}

func TestFindDevice(t *testing.T) {
	l := rig(nozzle("b", "p", 0, 0, 0, 0, 1), pump("p", 1), impl.Device{Kind: -7}, pump("p", 2), lamp("A", "b", 1, 1), nozzle("b", "q", 1, 1, 1, 1, 1))
	for _, c := range []struct {
		l    []impl.Device
		name string
		want int
	}{
		{l, "b", 0}, {l, "p", 1}, {l, "", 2}, {l, "A", 4}, {l, "a", -1}, {l, "q", -1}, {l, "bb", -1}, {l, "B", -1}, {l, " b", -1}, {l, "b\x00", -1},
		{l[1:], "b", 4}, {l[2:], "p", 1}, {l[:1], "p", -1}, {nil, "p", -1}, {nil, "", -1}, {rig(), "p", -1}, {rig(pump("p", 1)), "", -1}, {rig(pump("p", 1)), "p", 0},
		{append(slices.Repeat(rig(pump("p", 1)), 500), pump("q", 1)), "q", 500}, {slices.Repeat(rig(pump("p", 1)), 500), "p", 0},
	} {
		if got := impl.FindDevice(c.l, c.name); got != c.want {
			t.Errorf("FindDevice(%v, %q) = %d", c.l, c.name, got)
		}
	}
}

// fountain is a rig of as many devices as there may be.
func fountain() []impl.Device {
	return rig(nozzle("a", "p", 8, 16, 3, 4, 32), nozzle("b", "q", -8, 0, 0, 0, 8), nozzle("c", "p", 0, -24, 1, 16, 0), lamp("l", "a", 8, 8), lamp("m", "b", 4096, -4096), lamp("n", "a", 0, 0), pump("p", 40), pump("q", 512))
}

func pumps(names ...string) []impl.Device {
	var l []impl.Device
	for _, name := range names {
		l = append(l, pump(name, len(l)))
	}
	return l
}

func someRigs() [][]impl.Device {
	return [][]impl.Device{
		nil, {}, fountain(), pumps("p"), pumps("a", "b"), pumps("a", "aa", "ab", "b", "b0", "ba", "c", "d"), pumps("a", "b", "c", "d", "e", "f", "g"),
		// What hangs is before, behind and on both sides of what it hangs on.
		rig(nozzle("a", "p", 1, 2, 1, 2, 3), pump("p", 8)), rig(pump("p", 8), nozzle("q", "p", 1, 2, 1, 2, 3)), rig(nozzle("a", "p", 1, 2, 1, 2, 3), pump("p", 8), nozzle("q", "p", 1, 2, 1, 2, 3)),
		rig(lamp("a", "b", 1, 2), nozzle("b", "c", 3, 4, 0, 0, 1), pump("c", 8)), rig(pump("a", 8), nozzle("b", "a", 3, 4, 0, 0, 1), lamp("c", "b", 1, 2)), rig(nozzle("a", "b", 3, 4, 0, 0, 1), pump("b", 8), lamp("c", "a", 1, 2)),
		rig(pump("a", 8), lamp("b", "c", 1, 2), nozzle("c", "a", 3, 4, 0, 0, 1)),
		// All on one line, each on a line of its own, and lamps on nozzles of one pump.
		rig(nozzle("a", "p", 0, 0, 0, 0, 1), nozzle("b", "p", 0, 0, 0, 0, 1), nozzle("c", "p", 0, 0, 0, 0, 1), nozzle("d", "p", 0, 0, 0, 0, 1), nozzle("e", "p", 0, 0, 0, 0, 1), nozzle("f", "p", 0, 0, 0, 0, 1), nozzle("g", "p", 0, 0, 0, 0, 1), pump("p", 512)),
		rig(lamp("a", "n", 0, 0), lamp("b", "n", 0, 0), lamp("c", "n", 0, 0), lamp("d", "n", 0, 0), lamp("e", "n", 0, 0), lamp("f", "n", 0, 0), nozzle("n", "p", 0, 0, 0, 0, 1), pump("p", 512)),
		rig(lamp("a", "m", 0, 0), lamp("b", "n", 0, 0), nozzle("m", "p", 5, 0, 0, 0, 1), nozzle("n", "p", 0, 5, 0, 0, 1), pump("p", 64), pump("q", 0)),
		rig(nozzle("a", "x", 0, 0, 0, 0, 1), nozzle("b", "y", 0, 0, 0, 0, 1), nozzle("c", "z", 0, 0, 0, 0, 1), pump("x", 1), pump("y", 2), pump("z", 3)),
		rig(nozzle("a", "p", 1024, -1024, 0, 0, 1), lamp("b", "a", -4096, 4096), pump("p", 64)),
		// Names of which one begins with the other.
		rig(nozzle("a", "pp", 0, 0, 0, 0, 1), nozzle("aa", "p", 0, 0, 0, 0, 1), lamp("b", "a", 0, 0), lamp("bb", "aa", 0, 0), pump("p", 1), pump("pp", 2)),
	}
}

// noRigs has lists with one fault each.
func noRigs() [][]impl.Device {
	p, n, m := pump("p", 8), nozzle("b", "p", 3, 4, 0, 0, 1), lamp("a", "b", 1, 2)
	l := [][]impl.Device{
		append(fountain(), pump("z", 1)), pumps("a", "b", "c", "d", "e", "f", "g", "h", "i"), slices.Repeat(rig(p), 9), append(slices.Repeat(fountain(), 40), pump("z", 1)),
		// Out of order, and two of one Name.
		rig(p, n), rig(n, m, p), rig(m, p, n), rig(p, m, n), pumps("b", "a"), pumps("a", "c", "b"), pumps("b", "c", "a"), pumps("aa", "a"), pumps("b", "ab"),
		rig(p, p), rig(m, n, p, p), rig(n, n, p), rig(m, m, n, p), rig(n, p, pump("p", 9)), rig(nozzle("a", "p", 0, 0, 0, 0, 1), lamp("a", "b", 0, 0), n, p), rig(n, p, nozzle("p", "b", 0, 0, 0, 0, 1)),
		// A nozzle on a nozzle, on a lamp, on a name that is not there, on each other; a lamp on a pump, on a lamp, on a name that is not there.
		rig(nozzle("a", "b", 0, 0, 0, 0, 1), n, p), rig(m, n, nozzle("c", "a", 0, 0, 0, 0, 1), p), rig(n), rig(n, pump("q", 8)), rig(n, pump("pp", 8)), rig(nozzle("a", "b", 0, 0, 0, 0, 1), nozzle("b", "a", 0, 0, 0, 0, 1), p),
		rig(lamp("a", "p", 1, 2), n, p), rig(lamp("a", "p", 1, 2), p), rig(m, n, lamp("c", "a", 1, 2), p), rig(lamp("a", "c", 1, 2), n, p), rig(m), rig(m, p), rig(m, lamp("b", "a", 0, 0)), rig(m, nozzle("b", "a", 0, 0, 0, 0, 1), p),
		rig(m, n), rig(lamp("a", "bb", 1, 2), n, p), rig(n, p, nozzle("q", "x", 0, 0, 0, 0, 1)),
	}
	for _, d := range noDevices() {
		q, z := pump("q", 8), pump("z99", 8)
		l = append(l, rig(d), rig(d, z), rig(q, d), rig(m, n, p, d), rig(d, m, n, p))
	}
	return l
}

func rigByHand(l []impl.Device) bool {
	if len(l) > 8 {
		return false
	}
	kindOf := map[string]int{}
	for i, d := range l {
		if !deviceByHand(d) || i > 0 && l[i-1].Name >= d.Name {
			return false
		}
		kindOf[d.Name] = d.Kind
	}
	for _, d := range l {
		if d.Kind > 1 && kindOf[d.Line] != d.Kind-1 {
			return false
		}
	}
	return true
}

func somePool() []impl.Device {
	return rig(pump("a", 3), pump("b", 4), pump("d", 5), nozzle("a", "b", 1, 2, 3, 4, 5), nozzle("b", "a", 0, 0, 0, 0, 1), nozzle("c", "a", 1, 1, 1, 1, 1), nozzle("c", "b", 2, 2, 2, 2, 2), nozzle("c", "d", 3, 3, 3, 3, 3), lamp("a", "c", 1, 1), lamp("b", "c", 2, 2), lamp("c", "b", 3, 3), lamp("d", "c", 4, 4), lamp("d", "b", 5, 5))
}

// poolLists has each list of up to four devices of a pool.
func poolLists() [][]impl.Device {
	return listsOf(4, somePool()...)
}

func allRigs() [][]impl.Device {
	l := someRigs()
	for _, x := range poolLists() {
		if rigByHand(x) {
			l = append(l, x)
		}
	}
	return l
}

// allNames has names that the rigs of the tests have, and some that none of them has.
func allNames() []string {
	return []string{"a", "b", "c", "d", "e", "f", "g", "l", "m", "n", "p", "q", "x", "y", "z", "aa", "pp", "bb", "", "A", "nobody", "abcdefghi", " ", "a ", "p\x00"}
}

func TestIsRig(t *testing.T) {
	checkReport(t, "IsRig", impl.IsRig, someRigs(), noRigs())
}

func TestIsRigOfAllLists(t *testing.T) {
	rigs := 0
	for _, l := range slices.Concat(poolLists(), someRigs(), noRigs()) {
		want := rigByHand(l)
		if got := impl.IsRig(l); got != want {
			t.Errorf("IsRig(%v) is %t", l, got)
		}
		if want {
			rigs++
		}
	}
	if rigs < 60 {
		t.Error("only", rigs, "lists are rigs")
	}
}

func TestAddDevice(t *testing.T) {
	p, n, m := pump("p", 8), nozzle("f", "p", 3, 4, 0, 0, 1), lamp("h", "f", 1, 2)
	l := rig(n, m, p)
	first, middle, last := nozzle("a", "p", 0, 0, 0, 0, 1), lamp("k", "f", 0, 0), pump("z", 1)
	seven := fountain()[:7]
	seven[1].Line = "p"
	for _, c := range []struct {
		l    []impl.Device
		d    impl.Device
		want []impl.Device
	}{
		{nil, p, rig(p)}, {rig(), p, rig(p)}, {l, first, rig(first, n, m, p)}, {l, middle, rig(n, m, middle, p)}, {l, last, rig(n, m, p, last)}, {rig(n, p), lamp("g", "f", 0, 0), rig(n, lamp("g", "f", 0, 0), p)},
		{l, lamp("pa", "f", 0, 0), rig(n, m, p, lamp("pa", "f", 0, 0))}, {l, lamp("o9", "f", 0, 0), rig(n, m, lamp("o9", "f", 0, 0), p)}, {seven, pump("q", 3), append(slices.Clone(seven), pump("q", 3))}, {seven, lamp("0", "a", 0, 0), nil},
		// A second time, another device of a Name that is there, and to a full rig.
		{l, n, nil}, {l, m, nil}, {l, p, nil}, {l, pump("p", 9), nil}, {l, pump("f", 8), nil}, {l, lamp("f", "f", 0, 0), nil}, {l, nozzle("h", "p", 0, 0, 0, 0, 1), nil},
		{fountain(), pump("z", 1), nil}, {fountain(), lamp("bb", "a", 0, 0), nil}, {fountain(), fountain()[0], nil}, {append(pumps("a", "b", "c", "d", "e", "f", "g"), pump("h", 1)), pump("aa", 1), nil},
		// With a Line that names nothing, a device of another kind, or itself.
		{nil, n, nil}, {rig(p), m, nil}, {l, nozzle("a", "q", 0, 0, 0, 0, 1), nil}, {l, nozzle("a", "f", 0, 0, 0, 0, 1), nil}, {l, nozzle("a", "h", 0, 0, 0, 0, 1), nil}, {l, nozzle("a", "a", 0, 0, 0, 0, 1), nil},
		{l, lamp("a", "p", 0, 0), nil}, {l, lamp("a", "h", 0, 0), nil}, {l, lamp("a", "b", 0, 0), nil}, {l, lamp("a", "a", 0, 0), nil}, {l, lamp("a", "", 0, 0), nil}, {l, nozzle("a", "", 0, 0, 0, 0, 1), nil},
		// To a list that is no rig, also where the device would make it one.
		{rig(n), p, nil}, {rig(m, p), n, nil}, {rig(n, m), p, nil}, {rig(p, n), pump("z", 1), nil}, {rig(p, p), pump("z", 1), nil}, {rig(m, n), p, nil}, {append(fountain(), pump("z", 1)), pump("zz", 1), nil},
		{l, impl.Device{}, nil}, {l, pump("a", 513), nil}, {l, nozzle("a", "p", 1025, 0, 0, 0, 1), nil},
	} {
		got, ok := impl.AddDevice(c.l, c.d)
		want, wantOk := c.want, c.want != nil
		if !wantOk {
			want = c.l
		}
		checkList(t, got, ok, want, wantOk, "AddDevice(%v, %v)", c.l, c.d)
	}
}

// addedByHand puts the device before the first one whose Name is greater.
func addedByHand(l []impl.Device, d impl.Device) ([]impl.Device, bool) {
	place := 0
	for place < len(l) && l[place].Name <= d.Name {
		place++
	}
	larger := slices.Concat(l[:place], rig(d), l[place:])
	if !rigByHand(l) || !rigByHand(larger) {
		return l, false
	}
	return larger, true
}

func TestAddDeviceToAllLists(t *testing.T) {
	devices := append(somePool(), pump("zz", 1), lamp("m0", "a", 4096, 0), impl.Device{}, pump("c", -1), nozzle("e", "p", 1, 1, 1, 1, 1))
	for _, l := range slices.Concat(allRigs(), noRigs(), poolLists()[:500]) {
		for _, d := range devices {
			got, ok := impl.AddDevice(l, d)
			want, wantOk := addedByHand(l, d)
			checkList(t, got, ok, want, wantOk, "AddDevice(%v, %v)", l, d)
		}
	}
	for _, l := range someRigs() {
		for _, d := range noDevices() {
			got, ok := impl.AddDevice(l, d)
			checkList(t, got, ok, l, false, "AddDevice(%v, %v)", l, d)
		}
	}
}

func onLineByHand(l []impl.Device, line string) []string {
	var names []string
	for _, d := range l {
		if rigByHand(l) && line != "" && d.Line == line {
			names = append(names, d.Name)
		}
	}
	return names
}

func TestOnLine(t *testing.T) {
	for line, want := range map[string][]string{
		"p": {"a", "c"}, "q": {"b"}, "a": {"l", "n"}, "b": {"m"}, "c": nil, "l": nil, "": nil, "x": nil, "pp": nil, "P": nil, "p ": nil,
	} {
		if got := impl.OnLine(fountain(), line); !slices.Equal(got, want) {
			t.Errorf("OnLine of %q = %q", line, got)
		}
	}
	for _, l := range [][]impl.Device{append(fountain(), pump("z", 1)), fountain()[:7], fountain()[1:], slices.Repeat(fountain(), 2)} {
		for _, line := range []string{"p", "q", "a", "b", ""} {
			if got := impl.OnLine(l, line); len(got) != 0 {
				t.Errorf("OnLine(%v, %q) = %q", l, line, got)
			}
		}
	}
}

func TestOnLineOfAllRigs(t *testing.T) {
	for _, l := range append(allRigs(), noRigs()...) {
		for _, line := range allNames() {
			if got, want := impl.OnLine(l, line), onLineByHand(l, line); !slices.Equal(got, want) {
				t.Errorf("OnLine(%v, %q) = %q, not %q", l, line, got, want)
			}
		}
	}
}

func TestRemoveDevice(t *testing.T) {
	p, n, m := pump("p", 8), nozzle("f", "p", 3, 4, 0, 0, 1), lamp("h", "f", 1, 2)
	full := fountain()
	for _, c := range []struct {
		l    []impl.Device
		name string
		want []impl.Device
	}{
		{rig(p), "p", []impl.Device{}}, {rig(n, m, p), "h", rig(n, p)}, {rig(n, p), "f", rig(p)}, {rig(n, m, p, pump("q", 1)), "q", rig(n, m, p)}, {rig(pump("a", 1), n, m, p), "a", rig(n, m, p)}, {rig(nozzle("b", "p", 0, 0, 0, 0, 1), n, m, p), "b", rig(n, m, p)},
		{full, "c", slices.Concat(full[:2], full[3:])}, {full, "l", slices.Concat(full[:3], full[4:])}, {full, "m", slices.Concat(full[:4], full[5:])}, {full, "n", slices.Concat(full[:5], full[6:])},
		// Something hangs on it, it is not there, or the list is no rig.
		{full, "a", nil}, {full, "b", nil}, {full, "p", nil}, {full, "q", nil}, {rig(n, p), "p", nil}, {rig(n, m, p), "f", nil}, {rig(n, m, p), "p", nil},
		{rig(p), "q", nil}, {rig(p), "", nil}, {rig(p), "pp", nil}, {rig(), "p", nil}, {nil, "p", nil}, {nil, "", nil}, {full, "x", nil}, {full, "", nil}, {full, "C", nil},
		{rig(n), "f", nil}, {rig(p, n), "f", nil}, {rig(p, p), "p", nil}, {append(fountain(), pump("z", 1)), "z", nil}, {rig(impl.Device{}), "", nil}, {rig(p, pump("a", 1)), "a", nil},
	} {
		got, ok := impl.RemoveDevice(c.l, c.name)
		want, wantOk := c.want, c.want != nil
		if !wantOk {
			want = c.l
		}
		checkList(t, got, ok, want, wantOk, "RemoveDevice(%v, %q)", c.l, c.name)
	}
}

// removedByHand takes a device away if what is left is still a rig.
func removedByHand(l []impl.Device, name string) ([]impl.Device, bool) {
	var smaller []impl.Device
	for _, d := range l {
		if d.Name != name {
			smaller = append(smaller, d)
		}
	}
	if !rigByHand(l) || !rigByHand(smaller) || len(smaller) == len(l) {
		return l, false
	}
	return smaller, true
}

func TestRemoveDeviceOfAllRigs(t *testing.T) {
	for _, l := range append(allRigs(), noRigs()...) {
		for _, name := range allNames() {
			got, ok := impl.RemoveDevice(l, name)
			want, wantOk := removedByHand(l, name)
			checkList(t, got, ok, want, wantOk, "RemoveDevice(%v, %q)", l, name)
			if i := impl.FindDevice(l, name); ok {
				back, added := impl.AddDevice(got, l[i])
				checkList(t, back, added, l, true, "%q of %v, removed and added,", name, l)
			}
		}
	}
}

func TestSameLine(t *testing.T) {
	l := fountain()
	for _, c := range []struct {
		a, b string
		want bool
	}{
		{"a", "c", true}, {"l", "n", true}, {"a", "a", true}, {"b", "b", true}, {"l", "l", true}, {"m", "m", true},
		{"a", "b", false}, {"b", "c", false}, {"l", "m", false}, {"m", "n", false}, {"a", "l", false}, {"b", "m", false}, {"a", "p", false}, {"l", "a", false},
		{"p", "p", false}, {"p", "q", false}, {"q", "q", false}, {"x", "x", false}, {"a", "x", false}, {"", "", false}, {"a", "", false}, {"p", "", false}, {"p", "x", false}, {"A", "A", false},
	} {
		if impl.SameLine(l, c.a, c.b) != c.want || impl.SameLine(l, c.b, c.a) != c.want {
			t.Errorf("SameLine of %q and %q is not %t", c.a, c.b, c.want)
		}
		for _, none := range [][]impl.Device{append(fountain(), pump("z", 1)), fountain()[:7], slices.Repeat(fountain(), 2), nil} {
			if impl.SameLine(none, c.a, c.b) {
				t.Errorf("SameLine(%v, %q, %q) is true", none, c.a, c.b)
			}
		}
	}
}

func sameLineByHand(l []impl.Device, a, b string) bool {
	for _, d := range l {
		for _, e := range l {
			if rigByHand(l) && d.Name == a && e.Name == b && d.Line != "" && d.Line == e.Line {
				return true
			}
		}
	}
	return false
}

func TestSameLineOfAllRigs(t *testing.T) {
	for _, l := range append(allRigs(), noRigs()[:60]...) {
		for _, a := range allNames() {
			for _, b := range allNames() {
				if got, want := impl.SameLine(l, a, b), sameLineByHand(l, a, b); got != want {
					t.Errorf("SameLine(%v, %q, %q) is %t", l, a, b, got)
				}
			}
		}
	}
}

func TestPumpOf(t *testing.T) {
	for name, want := range map[string]string{
		"a": "p", "b": "q", "c": "p", "l": "p", "m": "q", "n": "p", "p": "p", "q": "q", "x": "", "": "", "A": "", "pp": "", "a ": "",
	} {
		if got := impl.PumpOf(fountain(), name); got != want {
			t.Errorf("PumpOf of %q = %q", name, got)
		}
	}
	// A list on which one could go around for ever is no rig.
	ring := rig(nozzle("a", "b", 0, 0, 0, 0, 1), nozzle("b", "a", 0, 0, 0, 0, 1))
	for _, l := range [][]impl.Device{ring, rig(lamp("a", "b", 0, 0), nozzle("b", "a", 0, 0, 0, 0, 1)), rig(nozzle("a", "a", 0, 0, 0, 0, 1)), append(fountain(), pump("z", 1)), fountain()[:7], nil} {
		for _, name := range allNames() {
			if got := impl.PumpOf(l, name); got != "" {
				t.Errorf("PumpOf(%v, %q) = %q", l, name, got)
			}
		}
	}
}

func pumpByHand(l []impl.Device, name string) string {
	if !rigByHand(l) {
		return ""
	}
	lineOf := map[string]string{}
	kindOf := map[string]int{}
	for _, d := range l {
		lineOf[d.Name], kindOf[d.Name] = d.Line, d.Kind
	}
	switch kindOf[name] {
	case 1:
		return name
	case 2:
		return lineOf[name]
	case 3:
		return lineOf[lineOf[name]]
	}
	return ""
}

func TestAllHangOnAPump(t *testing.T) {
	for _, l := range append(allRigs(), noRigs()...) {
		for _, name := range allNames() {
			if got, want := impl.PumpOf(l, name), pumpByHand(l, name); got != want {
				t.Errorf("PumpOf(%v, %q) = %q, not %q", l, name, got, want)
			}
		}
	}
	for _, l := range allRigs() {
		for _, d := range l {
			i := impl.FindDevice(l, impl.PumpOf(l, d.Name))
			if i < 0 || l[i].Kind != 1 {
				t.Errorf("PumpOf(%v, %q) = %q is no pump", l, d.Name, impl.PumpOf(l, d.Name))
			}
		}
	}
}

// Devices on one line are those that OnLine tells together, and they hang on the same device and the same pump.
func TestDevicesOnOneLineHangOnTheSamePump(t *testing.T) {
	for _, l := range allRigs() {
		for _, d := range l {
			for _, e := range l {
				together := slices.Contains(impl.OnLine(l, d.Line), e.Name)
				if got := impl.SameLine(l, d.Name, e.Name); got != together {
					t.Errorf("SameLine(%v, %q, %q) is %t", l, d.Name, e.Name, got)
				}
				if together && impl.PumpOf(l, d.Name) != impl.PumpOf(l, e.Name) {
					t.Errorf("%q and %q of %v hang on two pumps", d.Name, e.Name, l)
				}
			}
			for _, name := range impl.OnLine(l, d.Name) {
				if impl.PumpOf(l, name) != impl.PumpOf(l, d.Name) {
					t.Errorf("%q hangs on %q of %v, but on another pump", name, d.Name, l)
				}
			}
		}
	}
}

func turnedRigByHand(l []impl.Device, n int) []impl.Device {
	turned := slices.Clone(l)
	for i, d := range l {
		turned[i].At = turnedByHand(d.At, n)
		if d.Kind == 2 {
			turned[i].Heading = quarters(d.Heading + quarters(n))
		}
	}
	return turned
}

func TestTurnRig(t *testing.T) {
	l := rig(nozzle("a", "p", 8, 16, 3, 4, 32), nozzle("b", "p", -8, 0, 0, 1, 2), lamp("l", "a", 4096, -4000), pump("p", 40))
	for n, want := range map[int][]impl.Device{
		0:           l,
		1:           rig(nozzle("a", "p", -16, 8, 0, 4, 32), nozzle("b", "p", 0, -8, 1, 1, 2), lamp("l", "a", 4000, 4096), pump("p", 40)),
		2:           rig(nozzle("a", "p", -8, -16, 1, 4, 32), nozzle("b", "p", 8, 0, 2, 1, 2), lamp("l", "a", -4096, 4000), pump("p", 40)),
		3:           rig(nozzle("a", "p", 16, -8, 2, 4, 32), nozzle("b", "p", 0, 8, 3, 1, 2), lamp("l", "a", -4000, -4096), pump("p", 40)),
		4:           l,
		-1:          rig(nozzle("a", "p", 16, -8, 2, 4, 32), nozzle("b", "p", 0, 8, 3, 1, 2), lamp("l", "a", -4000, -4096), pump("p", 40)),
		-4:          l,
		-3:          rig(nozzle("a", "p", -16, 8, 0, 4, 32), nozzle("b", "p", 0, -8, 1, 1, 2), lamp("l", "a", 4000, 4096), pump("p", 40)),
		math.MaxInt: rig(nozzle("a", "p", 16, -8, 2, 4, 32), nozzle("b", "p", 0, 8, 3, 1, 2), lamp("l", "a", -4000, -4096), pump("p", 40)),
		math.MinInt: l,
	} {
		if got := impl.TurnRig(l, n); !slices.Equal(got, want) {
			t.Errorf("TurnRig by %d = %v", n, got)
		}
	}
}

func TestTurnRigOfAllRigs(t *testing.T) {
	rigs, none := allRigs(), noRigs()
	for _, n := range someTurns() {
		for _, l := range rigs {
			got := impl.TurnRig(l, n)
			if want := turnedRigByHand(l, n); !slices.Equal(got, want) || !impl.IsRig(got) {
				t.Errorf("TurnRig(%v, %d) = %v, not %v", l, n, got, want)
			}
			if back := impl.TurnRig(got, -n); !slices.Equal(back, l) {
				t.Errorf("turned by %d and back, %v is %v", n, l, back)
			}
		}
		for _, l := range none {
			if got := impl.TurnRig(l, n); len(got) != 0 {
				t.Errorf("TurnRig(%v, %d) = %v", l, n, got)
			}
		}
	}
}

// Turned devices throw turned drops.
func TestTurnedNozzlesAreTurnedJets(t *testing.T) {
	for _, l := range allRigs() {
		for n := -5; n <= 5; n++ {
			for i, d := range impl.TurnRig(l, n) {
				want := impl.TurnJet(impl.Jet{At: l[i].At, Heading: l[i].Heading, Tilt: l[i].Tilt, Lift: 7}, n)
				if got := (impl.Jet{At: d.At, Heading: d.Heading, Tilt: d.Tilt, Lift: 7}); d.Kind == 2 && got != want {
					t.Errorf("%v, turned by %d, throws %v, not %v", l[i], n, got, want)
				}
			}
		}
	}
}

func TestShiftRig(t *testing.T) {
	p := pump("p", 40)
	l := rig(nozzle("a", "p", 8, 16, 3, 4, 32), lamp("l", "a", 4000, -4000), p)
	low := rig(nozzle("a", "p", -1000, -1001, 3, 4, 32), p)
	for _, c := range []struct {
		l    []impl.Device
		by   impl.Place
		want []impl.Device
	}{
		{l, at(0, 0), l}, {l, at(1, -2), rig(nozzle("a", "p", 9, 14, 3, 4, 32), lamp("l", "a", 4001, -4002), p)}, {l, at(-8, -16), rig(nozzle("a", "p", 0, 0, 3, 4, 32), lamp("l", "a", 3992, -4016), p)},
		// The lamp just within and just beyond, and then the nozzle.
		{l, at(96, -96), rig(nozzle("a", "p", 104, -80, 3, 4, 32), lamp("l", "a", 4096, -4096), p)}, {l, at(97, 0), nil}, {l, at(0, -97), nil}, {l, at(97, -97), nil},
		{l, at(-1032, 1008), rig(nozzle("a", "p", -1024, 1024, 3, 4, 32), lamp("l", "a", 2968, -2992), p)}, {l, at(-1033, 0), nil}, {l, at(0, 1009), nil},
		{low, at(-24, -23), rig(nozzle("a", "p", -1024, -1024, 3, 4, 32), p)}, {low, at(-25, 0), nil}, {low, at(0, -24), nil}, {low, at(2024, 2025), rig(nozzle("a", "p", 1024, 1024, 3, 4, 32), p)}, {low, at(2025, 0), nil}, {low, at(0, 2026), nil}, {low, at(4096, 0), nil},
		// A pump stays where it is; the place by which it does not move has to be one.
		{rig(p), at(4096, -4096), rig(p)}, {rig(p), at(4097, 0), nil}, {rig(p), at(0, -4097), nil}, {nil, at(4096, 4096), []impl.Device{}}, {nil, at(4097, 0), nil}, {nil, at(0, math.MinInt), nil}, {rig(), at(5, 5), []impl.Device{}},
		{l, at(4097, 0), nil}, {l, at(math.MaxInt, 0), nil}, {l, at(0, math.MinInt), nil}, {l, at(1<<32, 0), nil},
		{rig(p, l[0]), at(0, 0), nil}, {l[:2], at(0, 0), nil}, {append(fountain(), pump("z", 1)), at(0, 0), nil}, {rig(impl.Device{}), at(0, 0), nil},
	} {
		got, ok := impl.ShiftRig(c.l, c.by)
		checkList(t, got, ok, c.want, c.want != nil, "ShiftRig(%v, %v)", c.l, c.by)
	}
}

func shiftedByHand(l []impl.Device, by impl.Place) ([]impl.Device, bool) {
	shifted := slices.Clone(l)
	for i, d := range l {
		if d.Kind != 1 {
			shifted[i].At = at(d.At.X+by.X, d.At.Y+by.Y)
		}
	}
	if _, ok := validOr(by); !ok || !rigByHand(l) || !rigByHand(shifted) {
		return nil, false
	}
	return shifted, true
}

func TestShiftRigOfAllRigs(t *testing.T) {
	lists := append(allRigs(), noRigs()[:60]...)
	for _, by := range slices.Concat(somePlaces(), noPlaces(), []impl.Place{at(1024, 0), at(1023, -1023), at(0, 1020), at(-1000, 7)}) {
		for _, l := range lists {
			got, ok := impl.ShiftRig(l, by)
			want, wantOk := shiftedByHand(l, by)
			checkList(t, got, ok, want, wantOk, "ShiftRig(%v, %v)", l, by)
			if back, backOk := impl.ShiftRig(got, at(-by.X, -by.Y)); ok && (!backOk || !slices.Equal(back, l)) {
				t.Errorf("moved by %v and back, %v is %v", by, l, back)
			}
		}
	}
	for _, l := range noRigs() {
		got, ok := impl.ShiftRig(l, at(0, 0))
		checkList(t, got, ok, nil, false, "ShiftRig(%v) by nothing", l)
	}
}

func TestFormatDevice(t *testing.T) {
	for d, want := range map[impl.Device]string{
		pump("p", 100): "pump p most 12.5", pump("p", 0): "pump p most 0", pump("p1", 512): "pump p1 most 64", pump("pump", 1): "pump pump most 0.125",
		nozzle("a", "p", 8, 16, 3, 4, 32):              "nozzle a on p at 1+2i heading 3 tilt 0.5 most 4",
		nozzle("a", "p", 0, 0, 0, 0, 0):                "nozzle a on p at 0+0i heading 0 tilt 0 most 0",
		nozzle("on", "at", -1024, -1023, 2, 15, 31):    "nozzle on on at at -128-127.875i heading 2 tilt 1.875 most 3.875",
		nozzle("abcdefgh", "z9", 1024, -12, 1, 16, 32): "nozzle abcdefgh on z9 at 128-1.5i heading 1 tilt 2 most 4",
		lamp("z", "a", 0, -8):                          "lamp z on a at 0-1i",
		lamp("lamp", "nozzle", -4096, 4096):            "lamp lamp on nozzle at -512+512i",
		lamp("z", "a", 4095, 1):                        "lamp z on a at 511.875+0.125i",
	} {
		if got := impl.FormatDevice(d); got != want {
			t.Errorf("FormatDevice(%v) = %q", d, got)
		}
	}
	for _, d := range noDevices() {
		if got := impl.FormatDevice(d); got != "" {
			t.Errorf("FormatDevice(%v) = %q", d, got)
		}
	}
}

// deviceText writes devices that are not valid, too, if their numbers are measures and their kind is one.
func deviceText(d impl.Device) string {
	plus := "+"
	if d.At.Y < 0 {
		plus = ""
	}
	place := fmt.Sprint(decimalOf(d.At.X), plus, decimalOf(d.At.Y), "i")
	switch d.Kind {
	case 1:
		return fmt.Sprint("pump ", d.Name, " most ", decimalOf(d.Most))
	case 2:
		return fmt.Sprint("nozzle ", d.Name, " on ", d.Line, " at ", place, " heading ", d.Heading, " tilt ", decimalOf(d.Tilt), " most ", decimalOf(d.Most))
	case 3:
		return fmt.Sprint("lamp ", d.Name, " on ", d.Line, " at ", place)
	}
	return fmt.Sprint(d.Kind)
}

func TestParseDeviceReadsWhatIsWritten(t *testing.T) {
	devices := slices.Concat(someDevices(), somePool(), fountain())
	for x := range 513 {
		devices = append(devices, pump("p", x), nozzle("a", "p", 2*x, -2*x+1, x%4, x%17, x%33), nozzle("b", "q", -x, x-1, x%4, x%17, x%33), lamp("z", "a", 8*x, 1-8*x))
	}
	for _, d := range devices {
		s := deviceText(d)
		if got := impl.FormatDevice(d); got != s {
			t.Errorf("FormatDevice(%v) = %q, not %q", d, got, s)
		}
		if got, ok := impl.ParseDevice(s); got != d || !ok {
			t.Errorf("ParseDevice(%q) = %v, %t", s, got, ok)
		}
	}
}

func checkNoDevice(t *testing.T, s string) {
	t.Helper()
	if d, ok := impl.ParseDevice(s); d != (impl.Device{}) || ok {
		t.Errorf("ParseDevice(%q) = %v, %t", s, d, ok)
	}
}

func TestParseDeviceRejectsWhatIsNotValid(t *testing.T) {
	for _, d := range append(noDevices(), deviceGrid()...) {
		s := deviceText(d)
		// The text of a pump or of a lamp does not tell the fields that are not named for it.
		told := impl.Device{Name: d.Name, Kind: d.Kind, Most: d.Most}
		if d.Kind == 3 {
			told = lamp(d.Name, d.Line, d.At.X, d.At.Y)
		}
		if deviceByHand(d) || d.Kind != 2 && deviceByHand(told) {
			continue
		}
		checkNoDevice(t, s)
	}
	for _, s := range []string{
		"pump P most 4", "pump  most 4", "pump abcdefghi most 4", "pump 1 most 4", "pump p most -0.125", "pump p most 64.125", "pump p most 512", "pump p most 512.125",
		"nozzle a on a at 0+0i heading 0 tilt 0 most 1", "nozzle a on  at 0+0i heading 0 tilt 0 most 1", "nozzle  on p at 0+0i heading 0 tilt 0 most 1", "nozzle a on P at 0+0i heading 0 tilt 0 most 1", "nozzle a on p at 128.125+0i heading 0 tilt 0 most 1", "nozzle a on p at 0-128.125i heading 0 tilt 0 most 1",
		"nozzle a on p at 0+0i heading 4 tilt 0 most 1", "nozzle a on p at 0+0i heading -1 tilt 0 most 1", "nozzle a on p at 0+0i heading 0 tilt 2.125 most 1", "nozzle a on p at 0+0i heading 0 tilt -0.125 most 1", "nozzle a on p at 0+0i heading 0 tilt 0 most 4.125", "nozzle a on p at 0+0i heading 0 tilt 0 most -0.125",
		"lamp z on z at 0+0i", "lamp z on  at 0+0i", "lamp  on a at 0+0i", "lamp z on A at 0+0i", "lamp Z on a at 0+0i", "lamp z on a at 512.125+0i", "lamp z on a at 0-512.125i",
	} {
		checkNoDevice(t, s)
	}
}

func deviceTexts() []string {
	return []string{"pump p most 12.5", "nozzle a on p at 1.5-2i heading 3 tilt 0.5 most 4", "lamp z on a at 0-1i"}
}

// What is read of a changed text is a device of which just this text is written.
func TestParseDeviceReadsNoOtherWritings(t *testing.T) {
	for _, s := range deviceTexts() {
		for _, text := range changedTexts(s) {
			d, ok := impl.ParseDevice(text)
			if ok && (!deviceByHand(d) || deviceText(d) != text) || !ok && d != (impl.Device{}) {
				t.Errorf("ParseDevice(%q) = %v, %t", text, d, ok)
			}
		}
	}
}

func TestParseDeviceRejectsOtherWords(t *testing.T) {
	for _, s := range deviceTexts() {
		for _, other := range []string{s + " ", " " + s, s + "\n", s + " " + s, s + s, s + " x", strings.ReplaceAll(s, " ", "\t"), strings.ReplaceAll(s, " ", "  "), strings.ReplaceAll(s, " ", ""), strings.ToUpper(s), strings.Replace(s, " ", "  ", 1), strings.ReplaceAll(s, " ", "\xc2\xa0")} {
			checkNoDevice(t, other)
		}
		words := strings.Split(s, " ")
		for i := range words {
			checkNoDevice(t, strings.Join(slices.Delete(slices.Clone(words), i, i+1), " "))
			checkNoDevice(t, strings.Join(slices.Insert(slices.Clone(words), i, words[i]), " "))
			checkNoDevice(t, strings.Join(slices.Insert(slices.Clone(words), i, ""), " "))
			for k := 0; k < len(words); k += 2 {
				other := slices.Clone(words)
				other[k] = "x"
				checkNoDevice(t, strings.Join(other, " "))
				if k == i {
					continue
				}
				other[k], other[i] = words[i], words[k]
				checkNoDevice(t, strings.Join(other, " "))
			}
		}
	}
}

func TestParseDeviceRejects(t *testing.T) {
	for _, s := range []string{
		"", " ", "   ", "     ", "           ", "pump", "nozzle", "lamp", "pump p", "pump p most", "pump p most ", "p most 4", "lamp z on a", "lamp z on a at", "lamp z on a at ", "nozzle a on p at 1+2i heading 3 tilt 0.5",
		"pipe p most 4", "pump p least 4", "Pump p most 4", "lamp p most 4", "nozzle p most 4", "nozzle z on a at 0-1i", "pump z on a at 0-1i", "lamp a on p at 1+2i heading 3 tilt 0.5 most 4", "pump a on p at 1+2i heading 3 tilt 0.5 most 4", "pump p on q most 4", "lamp z on a at 0-1i most 0",
		"pump p most 4.0", "pump p most 04", "pump p most +4", "pump p most -0", "pump p most .5", "pump p most 4.", "pump p most 4e0", "pump p most 0x4", "pump p most 4.1", "pump p most four", "pump p most nan", "pump p most 99999999999999999999", "pump p most 4i", "pump p most 4\n",
		"lamp z on a at 0", "lamp z on a at 0+1", "lamp z on a at 1i", "lamp z on a at 0-0i", "lamp z on a at -0+0i", "lamp z on a at 0+-1i", "lamp z on a at 0+01i", "lamp z on a at +0+1i", "lamp z on a at 0.50+0i", "lamp z on a at 0,8", "lamp z on a at 0+0I", "lamp z on a at here",
		"nozzle a on p at 1+2i heading 03 tilt 0.5 most 4", "nozzle a on p at 1+2i heading 3.0 tilt 0.5 most 4", "nozzle a on p at 1+2i heading +3 tilt 0.5 most 4", "nozzle a on p at 1+2i heading east tilt 0.5 most 4", "nozzle a on p at 1+2i heading 1000 tilt 0.5 most 4", "nozzle a on p at 1+2i heading -0 tilt 0.5 most 4", "nozzle a on p at 1+2i heading  tilt 0.5 most 4",
		"nozzle a on p at 1+2i heading 3 tilt 0.50 most 4", "nozzle a on p at 1+2i heading 3 tilt .5 most 4", "nozzle a on p at 1+2i heading 3 tilt 0.3 most 4", "nozzle a on p at 1+2i heading 3 tilt x most 4", "nozzle a on p at 1+2i heading 3 tilt  most 4", "nozzle a on p at 1+2i heading 3 tilt 0.5 most 4.0", "nozzle a on p at 1+2i heading 3 tilt 0.5 most x", "nozzle a on p at 1+2i heading 3 tilt 0.5 most ",
		"nozzle a on p at 1+2 heading 3 tilt 0.5 most 4", "nozzle a on p at  heading 3 tilt 0.5 most 4", "nozzle a on p at x heading 3 tilt 0.5 most 4", "nozzle a on p heading 3 at 1+2i tilt 0.5 most 4", "nozzle a on p at 1+2i tilt 0.5 heading 3 most 4", "nozzle a at 1+2i on p heading 3 tilt 0.5 most 4", "nozzle a on p at 1+2i heading 3 tilt 0.5 lift 4", "at 1+2i heading 3 tilt 0.5 lift 4",
		strings.Repeat("pump ", 400), strings.Repeat(" ", 4000), "pump " + strings.Repeat("p", 4000) + " most 4",
	} {
		checkNoDevice(t, s)
	}
}

func rigResults(l []impl.Device) map[string][]impl.Device {
	added, _ := impl.AddDevice(l, pump("p0", 1))
	addedFirst, _ := impl.AddDevice(l, pump("a000", 1))
	notAdded, _ := impl.AddDevice(l, impl.Device{})
	notAddedTwice, _ := impl.AddDevice(l, pump("p", 1))
	removed, _ := impl.RemoveDevice(l, "c")
	removedFirst, _ := impl.RemoveDevice(l, "a")
	removedLast, _ := impl.RemoveDevice(l, "p")
	notRemoved, _ := impl.RemoveDevice(l, "nobody")
	shifted, _ := impl.ShiftRig(l, at(0, 0))
	shiftedFar, _ := impl.ShiftRig(l, at(0, 4))
	return map[string][]impl.Device{
		"AddDevice": added, "AddDevice at the start": addedFirst, "AddDevice of none": notAdded, "AddDevice of one Name": notAddedTwice,
		"RemoveDevice": removed, "RemoveDevice at the start": removedFirst, "RemoveDevice at the end": removedLast, "RemoveDevice of none": notRemoved,
		"TurnRig by 0": impl.TurnRig(l, 0), "TurnRig by 1": impl.TurnRig(l, 1), "ShiftRig by nothing": shifted, "ShiftRig": shiftedFar,
	}
}

func TestRigsShareNothing(t *testing.T) {
	for _, l := range append(allRigs(), noRigs()...) {
		checkSharesNothing(t, l, pump("spare", 1), pump("spoilt", 77), rigResults)
	}
}

func TestRigsAreNotChanged(t *testing.T) {
	for _, l := range append(allRigs(), noRigs()...) {
		part, whole := sparing(l, pump("spare", 1))
		before := slices.Clone(whole)
		impl.IsRig(part)
		names := impl.OnLine(part, "p")
		again := impl.OnLine(part, "p")
		spoil(names, "spoilt")
		for _, name := range []string{"a", "c", "p", "spare", ""} {
			impl.FindDevice(part, name)
			impl.SameLine(part, name, "a")
			impl.PumpOf(part, name)
		}
		if !slices.Equal(whole, before) || !slices.Equal(again, impl.OnLine(part, "p")) {
			t.Errorf("the argument %v is changed, or results share memory", l)
		}
	}
}
