package tests

import (
	"math"
	"math/rand"
	"slices"
	"strings"
	"testing"

	"loop.example/g00925/impl"
)

// letters returns a letter and the one with an index, so that names of greater indices are greater.
func letters(first string, i int) string { return first + string(rune('a'+i)) }

// network returns a network with numbers of things, the same one for equal arguments; sectors refer to all of them.
func network(sites, sectors, models int) impl.Network {
	source := rand.New(rand.NewSource(int64(100*sites + 10*sectors + models)))
	n := impl.Network{}
	for i := range sites {
		n.Sites = append(n.Sites, impl.Site{Name: letters("s", i), Holder: letters("h", i%3), Place: point(source.Int63n(1501), source.Int63n(1501))})
	}
	for i := range models {
		a, r := jagged(source.Int63n(20000), 20000+int64(i)), tuned(letters("r", i), 1+int64(i%8))
		a.Name = letters("a", i)
		n.Antennas, n.Radios = append(n.Antennas, a), append(n.Radios, r)
	}
	for i := range sectors {
		n.Sectors = append(n.Sectors, impl.Sector{
			Name: letters("c", i), Site: letters("s", i%sites), Antenna: letters("a", i%models), Radio: letters("r", (i+1)%models), Band: letters("b", i%2),
			Azimuth: source.Int63n(360), Tilt: source.Int63n(31), Above: 1 + source.Int63n(3000), Channel: source.Int63n(1001) - 1,
		})
	}
	return n
}

// hills is the network of the document's examples, with another site and sector.
func hills() impl.Network {
	dish := beam(15000, 60, 10)
	small := impl.Radio{Name: "big", Power: 40000, Feeder: 2000, Noise: 4000, Width: 200, Modes: []impl.Mode{{Need: 3000, Rate: 1000}}}
	return impl.Network{
		Sites: []impl.Site{{Name: "hill", Holder: "one", Place: point(100, 200)}, {Name: "mast", Holder: "one", Place: point(500, 100)}},
		Sectors: []impl.Sector{
			{Name: "a", Site: "hill", Antenna: "beam", Radio: "big", Band: "low", Azimuth: 90, Tilt: 2, Above: 300, Channel: 5},
			{Name: "b", Site: "hill", Antenna: "omni", Radio: "big", Band: "low", Above: 300, Channel: 7},
		},
		Antennas: []impl.Antenna{dish, omni(5000)},
		Radios:   []impl.Radio{small},
	}
}

// networks returns valid networks of many sizes, those at the limits among them.
func networks() []impl.Network {
	idle := network(3, 0, 2)
	limits := network(1, 2, 1)
	limits.Sites[0].Place = point(200000, 200000)
	limits.Sectors[0] = impl.Sector{Name: "a", Site: "sa", Antenna: "aa", Radio: "ra", Band: "z", Azimuth: 359, Tilt: 30, Above: 3000, Channel: 999}
	limits.Sectors[1] = impl.Sector{Name: "abcdefghij", Site: "sa", Antenna: "aa", Radio: "ra", Band: "b123456789", Azimuth: 0, Tilt: 0, Above: 1, Channel: -1}
	return []impl.Network{{}, hills(), idle, limits, network(1, 1, 1), network(12, 0, 0), network(12, 24, 8), network(1, 24, 1), network(5, 9, 3), network(12, 7, 8), network(2, 3, 8)}
}

// badSites are not valid, each for one reason.
func badSites() []impl.Site {
	bad := []impl.Site{{}}
	for _, name := range badNames {
		bad = append(bad, impl.Site{Name: name, Holder: "one"}, impl.Site{Name: "sz", Holder: name})
	}
	for _, p := range badPoints {
		bad = append(bad, impl.Site{Name: "sz", Holder: "one", Place: p})
	}
	return bad
}

var badNames = []string{"", "A", "1a", "a b", "a,b", "abcdefghijk", "é", "a\n"}

// badSectors are not valid, each for one reason; they refer to what the networks of network have.
func badSectors() []impl.Sector {
	good := impl.Sector{Name: "cz", Site: "sa", Antenna: "aa", Radio: "ra", Band: "b", Above: 300}
	bad := []impl.Sector{{}}
	change := func(spoil func(x *impl.Sector)) {
		x := good
		spoil(&x)
		bad = append(bad, x)
	}
	for _, name := range badNames {
		change(func(x *impl.Sector) { x.Name = name })
		change(func(x *impl.Sector) { x.Site = name })
		change(func(x *impl.Sector) { x.Antenna = name })
		change(func(x *impl.Sector) { x.Radio = name })
		change(func(x *impl.Sector) { x.Band = name })
	}
	for _, v := range []int64{math.MinInt64, -2, 3001, math.MaxInt64} {
		change(func(x *impl.Sector) { x.Azimuth = v })
		change(func(x *impl.Sector) { x.Tilt = v })
		change(func(x *impl.Sector) { x.Above = v })
		change(func(x *impl.Sector) { x.Channel = v })
	}
	change(func(x *impl.Sector) { x.Azimuth = -1 })
	change(func(x *impl.Sector) { x.Azimuth = 360 })
	change(func(x *impl.Sector) { x.Tilt = -1 })
	change(func(x *impl.Sector) { x.Tilt = 31 })
	change(func(x *impl.Sector) { x.Above = 0 })
	change(func(x *impl.Sector) { x.Channel = 1000 })
	return bad
}

// countOf returns how many elements of a list have a property.
func countOf[T any](list []T, has func(x T) bool) int {
	count := 0
	for _, x := range list {
		if has(x) {
			count++
		}
	}
	return count
}

// badNetworks are not valid, each for one reason.
func badNetworks() []impl.Network {
	bad := []impl.Network{network(13, 0, 0), network(13, 3, 2), network(3, 25, 3)}
	change := func(spoil func(n *impl.Network)) {
		n := network(4, 9, 3)
		spoil(&n)
		bad = append(bad, n)
	}
	change(func(n *impl.Network) { n.Antennas = network(1, 0, 9).Antennas })
	change(func(n *impl.Network) { n.Radios = network(1, 0, 9).Radios })
	for i := range 3 {
		change(func(n *impl.Network) { n.Sites[i], n.Sites[i+1] = n.Sites[i+1], n.Sites[i] })
		change(func(n *impl.Network) { n.Sectors[i], n.Sectors[i+1] = n.Sectors[i+1], n.Sectors[i] })
		change(func(n *impl.Network) { n.Sectors[i+6].Name = n.Sectors[i+5].Name })
		change(func(n *impl.Network) { n.Sites = slices.Insert(n.Sites, i, n.Sites[i]) })
		change(func(n *impl.Network) { n.Antennas = slices.Insert(n.Antennas, i, n.Antennas[i]) })
		change(func(n *impl.Network) { n.Radios = slices.Insert(n.Radios, i, n.Radios[i]) })
		change(func(n *impl.Network) { n.Sites = slices.Delete(n.Sites, i, i+1) })
		change(func(n *impl.Network) { n.Antennas = slices.Delete(n.Antennas, i, i+1) })
		change(func(n *impl.Network) { n.Radios = slices.Delete(n.Radios, i, i+1) })
		change(func(n *impl.Network) { n.Antennas[i].Horizontal[0] = 1 })
		change(func(n *impl.Network) { n.Radios[i].Modes = nil })
	}
	for i := range 2 {
		change(func(n *impl.Network) { n.Antennas[i], n.Antennas[i+1] = n.Antennas[i+1], n.Antennas[i] })
		change(func(n *impl.Network) { n.Radios[i], n.Radios[i+1] = n.Radios[i+1], n.Radios[i] })
	}
	for _, i := range []int{0, 4, 8} {
		// Names of other things, and names that differ from those of the site, the antenna and the radio in one byte, do not count.
		for _, name := range []string{"zz", "sad", "a", "ca", "b"} {
			change(func(n *impl.Network) { n.Sectors[i].Site = name })
			change(func(n *impl.Network) { n.Sectors[i].Antenna = name })
			change(func(n *impl.Network) { n.Sectors[i].Radio = name })
		}
		change(func(n *impl.Network) { n.Sectors[i].Site = n.Sectors[i].Radio })
		change(func(n *impl.Network) { n.Sectors[i].Antenna = n.Sectors[i].Site })
		change(func(n *impl.Network) { n.Sectors[i].Radio = n.Sectors[i].Antenna })
	}
	for _, x := range badSites() {
		change(func(n *impl.Network) {
			n.Sites = slices.Insert(n.Sites, countOf(n.Sites, func(y impl.Site) bool { return y.Name < x.Name }), x)
		})
	}
	for _, x := range badSectors() {
		change(func(n *impl.Network) {
			n.Sectors = slices.Insert(n.Sectors, countOf(n.Sectors, func(y impl.Sector) bool { return y.Name < x.Name }), x)
		})
	}
	many := network(1, 0, 0)
	many.Sites = slices.Repeat(many.Sites, 100000)
	return append(bad, many)
}

func TestPromise15ValidNetworks(t *testing.T) {
	for i, n := range networks() {
		if !impl.ValidNetwork(n) {
			t.Errorf("the network %d is not valid", i)
		}
	}
	for i, n := range badNetworks() {
		if impl.ValidNetwork(n) {
			t.Errorf("the bad network %d is valid", i)
		}
	}
}

// differing are networks of which each differs from the others in one place.
func differing() []impl.Network {
	list := []impl.Network{network(4, 9, 3)}
	for _, spoil := range []func(n *impl.Network){
		func(n *impl.Network) { n.Sites[3].Name = "sz" },
		func(n *impl.Network) { n.Sites[3].Holder = "sz" },
		func(n *impl.Network) { n.Sites[0].Place.X++ },
		func(n *impl.Network) { n.Sites[0].Place.Y++ },
		func(n *impl.Network) { n.Sites = n.Sites[:3] },
		func(n *impl.Network) { n.Sectors = n.Sectors[:8] },
		func(n *impl.Network) { n.Sectors = nil },
		func(n *impl.Network) { n.Sectors[8].Name = "cz" },
		func(n *impl.Network) { n.Sectors[8].Site = "cz" },
		func(n *impl.Network) { n.Sectors[8].Antenna = "cz" },
		func(n *impl.Network) { n.Sectors[8].Radio = "cz" },
		func(n *impl.Network) { n.Sectors[8].Band = "cz" },
		func(n *impl.Network) { n.Sectors[8].Azimuth = -7 },
		func(n *impl.Network) { n.Sectors[8].Tilt = -7 },
		func(n *impl.Network) { n.Sectors[8].Above = -7 },
		func(n *impl.Network) { n.Sectors[8].Channel = -7 },
		func(n *impl.Network) { n.Antennas[2].Name = "az" },
		func(n *impl.Network) { n.Antennas[2].Gain++ },
		func(n *impl.Network) { n.Antennas[2].Horizontal[35]++ },
		func(n *impl.Network) { n.Antennas[2].Vertical[18]++ },
		func(n *impl.Network) { n.Antennas = n.Antennas[:2] },
		func(n *impl.Network) { n.Radios[2].Name = "rz" },
		func(n *impl.Network) { n.Radios[2].Width++ },
		func(n *impl.Network) { n.Radios[2].Modes[2].Rate++ },
		func(n *impl.Network) { n.Radios = n.Radios[:2] },
		func(n *impl.Network) { *n = impl.Network{} },
	} {
		n := network(4, 9, 3)
		spoil(&n)
		list = append(list, n)
	}
	return list
}

func TestPromise15SameNetworks(t *testing.T) {
	again := differing()
	for i, a := range differing() {
		for k, b := range again {
			if impl.SameNetwork(a, b) != (i == k) {
				t.Errorf("SameNetwork of the networks %d and %d", i, k)
			}
		}
	}
	empty := impl.Network{Sites: []impl.Site{}, Sectors: []impl.Sector{}, Antennas: []impl.Antenna{}, Radios: []impl.Radio{}}
	expect(t, "SameNetwork of nil and empty lists", []bool{impl.SameNetwork(impl.Network{}, empty), impl.SameNetwork(empty, impl.Network{})}, "[true true]")
}

// expectNetwork checks a network that was returned, and the code.
func expectNetwork(t *testing.T, what string, n impl.Network, code int64, want impl.Network) {
	t.Helper()
	if code != impl.OK || !impl.SameNetwork(n, want) || !impl.ValidNetwork(n) {
		t.Errorf("%s: the network has %d sites and %d sectors, and the code is %d", what, len(n.Sites), len(n.Sectors), code)
	}
}

func TestPromise15RemovingASiteUndoesAdding(t *testing.T) {
	for _, n := range networks() {
		for _, name := range []string{"a", "hilk", "hilm", "s", "s0", "saa", "sba", "slz", "z", "zzzzzzzzzz"} {
			x := impl.Site{Name: name, Holder: "new", Place: point(200000, 7)}
			more, code := impl.AddSite(n, x)
			if len(n.Sites) == 12 {
				expect(t, "AddSite to a full network", []any{code, impl.SameNetwork(more, impl.Network{})}, []any{impl.ErrFull, true})
				continue
			}
			expectAdded(t, n.Sites, more.Sites, x, code)
			less, code := impl.DropSite(more, name)
			expectNetwork(t, "DropSite", less, code, n)
		}
		for _, x := range n.Sites {
			if slices.ContainsFunc(n.Sectors, func(s impl.Sector) bool { return s.Site == x.Name }) {
				continue
			}
			less, code := impl.DropSite(n, x.Name)
			expectAdded(t, less.Sites, n.Sites, x, code)
			again, code := impl.AddSite(less, x)
			expectNetwork(t, "AddSite", again, code, n)
		}
	}
}

// expectAdded checks that a list has one thing more than another one.
func expectAdded[T comparable](t *testing.T, before, after []T, x T, code int64) {
	t.Helper()
	at := slices.Index(after, x)
	if code != impl.OK || at < 0 || !slices.Equal(slices.Delete(slices.Clone(after), at, at+1), before) {
		t.Errorf("%v makes %v of %v, and the code is %d", x, after, before, code)
	}
}

func TestPromise15RemovingASectorUndoesAdding(t *testing.T) {
	for _, n := range networks() {
		if len(n.Sites) == 0 || len(n.Radios) == 0 {
			continue
		}
		for _, name := range []string{"a", "aa", "c", "ca0", "cbz", "cj", "z", "zzzzzzzzzz"} {
			x := impl.Sector{Name: name, Site: n.Sites[0].Name, Antenna: n.Antennas[0].Name, Radio: n.Radios[0].Name, Band: "new", Above: 1}
			if slices.ContainsFunc(n.Sectors, func(s impl.Sector) bool { return s.Name == name }) {
				continue
			}
			more, code := impl.AddSector(n, x)
			if len(n.Sectors) == 24 {
				expect(t, "AddSector to a full network", []any{code, impl.SameNetwork(more, impl.Network{})}, []any{impl.ErrFull, true})
				continue
			}
			expectAdded(t, n.Sectors, more.Sectors, x, code)
			less, code := impl.DropSector(more, name)
			expectNetwork(t, "DropSector", less, code, n)
		}
		for _, x := range n.Sectors {
			less, code := impl.DropSector(n, x.Name)
			expectAdded(t, less.Sectors, n.Sectors, x, code)
			again, code := impl.AddSector(less, x)
			expectNetwork(t, "AddSector", again, code, n)
		}
	}
}

func TestPromise15ChangesOfSectors(t *testing.T) {
	for _, n := range networks() {
		for i, x := range n.Sectors {
			y := impl.Sector{Name: x.Name, Site: n.Sites[len(n.Sites)-1].Name, Antenna: n.Antennas[len(n.Antennas)-1].Name, Radio: n.Radios[0].Name, Band: "new", Azimuth: 7, Tilt: 8, Above: 9, Channel: 10}
			want := n
			want.Sectors = slices.Clone(n.Sectors)
			want.Sectors[i] = y
			changed, code := impl.ChangeSector(n, y)
			expectNetwork(t, "ChangeSector", changed, code, want)
			back, code := impl.ChangeSector(changed, x)
			expectNetwork(t, "ChangeSector back", back, code, n)
		}
	}
}

func TestPromise15ChannelsOfAllSectors(t *testing.T) {
	for _, n := range networks() {
		var before, list []int64
		for i, x := range n.Sectors {
			before = append(before, x.Channel)
			list = append(list, []int64{-1, 0, 1, 998, 999}[i%5])
		}
		channels, code := impl.ChannelsOf(n)
		expect(t, "ChannelsOf", []any{channels, code}, []any{before, impl.OK})
		set, code := impl.SetChannels(n, list)
		channels, _ = impl.ChannelsOf(set)
		expect(t, "ChannelsOf behind SetChannels", []any{code, channels}, []any{impl.OK, list})
		back, code := impl.SetChannels(set, before)
		expectNetwork(t, "SetChannels back", back, code, n)
	}
	for i, n := range badNetworks() {
		channels, code := impl.ChannelsOf(n)
		if code != impl.ErrInvalid || len(channels) > 0 {
			t.Errorf("ChannelsOf the bad network %d = %v, %d", i, channels, code)
		}
	}
}

// networkChoices returns a network and bad ones.
func networkChoices(good impl.Network) []choice[impl.Network] {
	return choicesOf(good, impl.ErrInvalid, badNetworks()...)
}

// expectChange checks the code of a change, and that nothing else is returned with an error.
func expectChange(t *testing.T, what string, n impl.Network, code, want int64) {
	t.Helper()
	if code != want || code != impl.OK && !impl.SameNetwork(n, impl.Network{}) {
		t.Errorf("%s: %d sites, %d sectors and the code %d, want %d", what, len(n.Sites), len(n.Sectors), code, want)
	}
}

func TestPromise15ChangesOfSitesWithErrors(t *testing.T) {
	adding := choicesOf(impl.Site{Name: "sz", Holder: "one"}, impl.ErrInvalid, badSites()...)
	adding = append(adding, choicesOf(impl.Site{}, impl.ErrExists, impl.Site{Name: "sa", Holder: "other"}, impl.Site{Name: "sc", Holder: "one"})[1:]...)
	for _, n := range append(networkChoices(network(4, 2, 3)), choice[impl.Network]{network(12, 2, 3), impl.ErrFull}) {
		for _, x := range adding {
			more, code := impl.AddSite(n.value, x.value)
			expectChange(t, "AddSite "+x.value.Name, more, code, firstReported(n.code, x.code))
		}
		for _, name := range []choice[string]{{"sc", impl.OK}, {"sd", impl.OK}, {"sa", impl.ErrState}, {"sb", impl.ErrState}, {"sz", impl.ErrNotFound}, {"", impl.ErrNotFound}, {"S", impl.ErrNotFound}, {"ca", impl.ErrNotFound}, {strings.Repeat("s", 5000), impl.ErrNotFound}} {
			want := name.code
			if n.code == impl.ErrInvalid {
				want = n.code
			}
			less, code := impl.DropSite(n.value, name.value)
			expectChange(t, "DropSite "+name.value, less, code, want)
		}
	}
}

// sectorChoices returns a new sector, and others with all kinds of names.
func sectorChoices() []choice[impl.Sector] {
	list := choicesOf(impl.Sector{Name: "cz", Site: "sa", Antenna: "aa", Radio: "ra", Band: "b", Above: 300}, impl.ErrInvalid, badSectors()...)
	for _, name := range []choice[string]{{"cz", impl.OK}, {"ca", impl.ErrExists}, {"cb", impl.ErrExists}} {
		for _, site := range []choice[string]{{"sd", impl.OK}, {"se", impl.ErrNotFound}, {"aa", impl.ErrNotFound}} {
			for _, antenna := range []choice[string]{{"ac", impl.OK}, {"ad", impl.ErrNotFound}, {"sa", impl.ErrNotFound}} {
				for _, radio := range []choice[string]{{"rc", impl.OK}, {"rd", impl.ErrNotFound}, {"r", impl.ErrNotFound}} {
					x := impl.Sector{Name: name.value, Site: site.value, Antenna: antenna.value, Radio: radio.value, Band: "none", Above: 1}
					list = append(list, choice[impl.Sector]{x, firstReported(name.code, site.code, antenna.code, radio.code)})
				}
			}
		}
	}
	return list
}

func TestPromise15ChangesOfSectorsWithErrors(t *testing.T) {
	full := network(4, 24, 3)
	for _, n := range append(networkChoices(network(4, 2, 3)), choice[impl.Network]{full, impl.ErrFull}) {
		for _, x := range sectorChoices() {
			more, code := impl.AddSector(n.value, x.value)
			expectChange(t, "AddSector "+x.value.Name, more, code, firstReported(n.code, x.code))
			want := firstReported(n.code, x.code)
			switch want {
			case impl.ErrExists: // it can be changed
				want = impl.OK
			case impl.ErrFull, impl.OK: // it is not there
				want = impl.ErrNotFound
			}
			changed, code := impl.ChangeSector(n.value, x.value)
			expectChange(t, "ChangeSector "+x.value.Name, changed, code, want)
		}
		for _, name := range []choice[string]{{"ca", impl.OK}, {"cb", impl.OK}, {"cz", impl.ErrNotFound}, {"", impl.ErrNotFound}, {"C", impl.ErrNotFound}, {"sa", impl.ErrNotFound}, {strings.Repeat("c", 5000), impl.ErrNotFound}} {
			want := name.code
			if n.code == impl.ErrInvalid {
				want = n.code
			}
			less, code := impl.DropSector(n.value, name.value)
			expectChange(t, "DropSector "+name.value, less, code, want)
		}
	}
}

func TestPromise15ChannelsWithErrors(t *testing.T) {
	for _, n := range networkChoices(network(4, 2, 3)) {
		for _, list := range []choice[[]int64]{
			{[]int64{-1, 999}, impl.OK}, {[]int64{0, 0}, impl.OK}, {nil, impl.ErrState}, {[]int64{5}, impl.ErrState}, {[]int64{5, 6, 7}, impl.ErrState}, {zeros(100000), impl.ErrState},
			{[]int64{-2, 0}, impl.ErrRange}, {[]int64{0, 1000}, impl.ErrRange}, {[]int64{1000}, impl.ErrRange}, {[]int64{0, 0, -2}, impl.ErrRange}, {append(zeros(100000), 1000), impl.ErrRange},
			{[]int64{math.MinInt64, 0}, impl.ErrRange}, {[]int64{0, math.MaxInt64}, impl.ErrRange},
		} {
			set, code := impl.SetChannels(n.value, list.value)
			expectChange(t, "SetChannels", set, code, firstReported(n.code, list.code))
		}
	}
	set, code := impl.SetChannels(impl.Network{}, nil)
	expectNetwork(t, "SetChannels of no sectors", set, code, impl.Network{})
}

// oddOfNames are names of nothing in any network.
var oddOfNames = []string{"", "zz", "s", "saa", "A", "é", "a b", strings.Repeat("s", 5000)}

func TestPromise15NamedSites(t *testing.T) {
	for _, n := range networks() {
		for _, want := range n.Sites {
			x, code := impl.SiteNamed(n, want.Name)
			expect(t, "SiteNamed", []any{x, code}, []any{want, impl.OK})
			var names []string
			for _, s := range n.Sectors {
				if s.Site == want.Name {
					names = append(names, s.Name)
				}
			}
			found, code := impl.SectorsAt(n, want.Name)
			expect(t, "SectorsAt", []any{found, code, slices.IsSorted(found)}, []any{names, impl.OK, true})
		}
		for _, name := range oddOfNames {
			expectNothing(t, n, name, impl.ErrNotFound, impl.ErrNotFound)
		}
		for _, s := range n.Sectors {
			expectNothing(t, n, s.Name, impl.ErrNotFound, impl.OK)
		}
	}
	for _, n := range badNetworks() {
		for _, name := range []string{"sa", "ca", "zz"} {
			expectNothing(t, n, name, impl.ErrInvalid, impl.ErrInvalid)
		}
	}
}

// expectNothing checks that there is no site with a name, and, if that is an error, no sector.
func expectNothing(t *testing.T, n impl.Network, name string, siteCode, sectorCode int64) {
	t.Helper()
	site, a := impl.SiteNamed(n, name)
	names, b := impl.SectorsAt(n, name)
	expect(t, "SiteNamed and SectorsAt of "+name, []any{site, a, names, b}, []any{impl.Site{}, siteCode, []string{}, siteCode})
	if sectorCode != impl.OK {
		sector, c := impl.SectorNamed(n, name)
		end, d := impl.EndOf(n, name)
		eirp, e := impl.EirpToward(n, name, 0, 0)
		expect(t, "SectorNamed, EndOf and EirpToward of "+name, []any{sector, c, end, d, eirp, e}, []any{impl.Sector{}, sectorCode, impl.End{}, sectorCode, 0, sectorCode})
	}
}

// siteOf returns the site with a name.
func siteOf(n impl.Network, name string) impl.Site {
	return n.Sites[slices.IndexFunc(n.Sites, func(x impl.Site) bool { return x.Name == name })]
}

func TestPromise15NamedSectors(t *testing.T) {
	for _, n := range networks() {
		for _, want := range n.Sectors {
			x, code := impl.SectorNamed(n, want.Name)
			expect(t, "SectorNamed", []any{x, code}, []any{want, impl.OK})
			e, code := impl.EndOf(n, want.Name)
			expect(t, "EndOf", []any{e, code, impl.ValidEnd(e)}, []any{impl.End{Place: siteOf(n, want.Site).Place, Above: want.Above}, impl.OK, true})
		}
	}
	e, _ := impl.EndOf(hills(), "a")
	expect(t, "EndOf the example", e, "{{100 200} 300}")
}

// slowEirp returns the power of a sector in a direction by the words of the document.
func slowEirp(n impl.Network, x impl.Sector, bearing, elevation int64) int64 {
	a := n.Antennas[slices.IndexFunc(n.Antennas, func(a impl.Antenna) bool { return a.Name == x.Antenna })]
	r := n.Radios[slices.IndexFunc(n.Radios, func(r impl.Radio) bool { return r.Name == x.Radio })]
	return r.Power - r.Feeder + slowGain(a, x.Azimuth, x.Tilt, bearing, elevation)
}

// weak is a network whose only sector radiates less to its back than an antenna's gain can be.
func weak() impl.Network {
	n := hills()
	n.Antennas[0].Gain = -60000
	for i := 1; i < 36; i++ {
		n.Antennas[0].Horizontal[i] = 60000
	}
	n.Radios[0].Power, n.Radios[0].Feeder = -100000, 30000
	n.Sectors = n.Sectors[:1]
	return n
}

func TestPromise15PowersOfSectors(t *testing.T) {
	for _, n := range append(networks(), weak()) {
		for _, x := range n.Sectors {
			for _, bearing := range []int64{0, 1, 45, 90, 180, 270, 271, 359} {
				for _, elevation := range []int64{-90, -89, -30, -2, 0, 1, 59, 60, 61, 90} {
					eirp, code := impl.EirpToward(n, x.Name, bearing, elevation)
					expect(t, "EirpToward", []int64{eirp, code}, []int64{slowEirp(n, x, bearing, elevation), impl.OK})
				}
			}
		}
	}
	n := hills()
	some := []int64{value(impl.EirpToward(n, "a", 90, -2)), value(impl.EirpToward(n, "a", 95, -2)), value(impl.EirpToward(n, "a", 90, 8)), value(impl.EirpToward(n, "b", 200, -90))}
	expect(t, "EirpToward of the example", some, "[53000 52833 41000 43000]")
	expect(t, "EirpToward of a weak sector", value(impl.EirpToward(weak(), "a", 270, 0)), -250000)
}

func TestPromise15PowersWithErrors(t *testing.T) {
	bearings := choicesOf(int64(0), impl.ErrRange, -1, 360, math.MinInt64, math.MaxInt64)
	elevations := choicesOf(int64(0), impl.ErrRange, -91, 91, math.MinInt64, math.MaxInt64)
	for _, n := range networkChoices(network(4, 2, 3)) {
		for _, name := range choicesOf("ca", impl.ErrNotFound, append([]string{"sa", "aa"}, oddOfNames...)...) {
			for _, bearing := range bearings {
				for _, elevation := range elevations {
					eirp, code := impl.EirpToward(n.value, name.value, bearing.value, elevation.value)
					want := firstReported(n.code, bearing.code, elevation.code, name.code)
					if code != want || code != impl.OK && eirp != 0 {
						t.Errorf("EirpToward of %.20q at %d, %d = %d, %d, want %d", name.value, bearing.value, elevation.value, eirp, code, want)
					}
				}
			}
		}
	}
}

// slowLevel returns the level of a sector at an end, and the code, by the words of the document.
func slowLevel(g impl.Terrain, n impl.Network, x impl.Sector, f int64, at impl.End) (int64, int64) {
	from := impl.End{Place: siteOf(n, x.Site).Place, Above: x.Above}
	if !impl.InTerrain(g, from.Place) || from.Place == at.Place {
		return 0, impl.ErrState
	}
	p := slowPath(g, from, at, f)
	return slowEirp(n, x, p.Bearing, p.Elevation) - p.Total, impl.OK
}

func TestPromise15LevelsArePowersLessLosses(t *testing.T) {
	codes := map[int64]int{}
	for _, g := range []impl.Terrain{flat(100, 16, 16, 100), ridged(900), rough(100, 16, 16, 300), rough(40, 20, 24, 90000), rough(75, 21, 12, 2000)} {
		for _, n := range append(networks(), weak()) {
			ends := endsIn(g, 3)
			for _, s := range n.Sites {
				if impl.InTerrain(g, s.Place) {
					ends = append(ends, impl.End{Place: s.Place, Above: 60})
				}
			}
			for i, at := range ends[:min(len(ends), 6)] {
				for k, x := range n.Sectors {
					f := pathFrequencies[(i+k)%len(pathFrequencies)]
					want, wantCode := slowLevel(g, n, x, f, at)
					level, code := impl.LevelAt(g, n, x.Name, f, at)
					expect(t, "LevelAt", []int64{level, code}, []int64{want, wantCode})
					codes[code]++
				}
			}
		}
	}
	if codes[impl.OK] < 500 || codes[impl.ErrState] < 100 || len(codes) != 2 {
		t.Errorf("the levels have the codes %v", codes)
	}
}

func TestPromise15ExamplesOfLevels(t *testing.T) {
	n, ground := hills(), flat(100, 16, 16, 100)
	n.Sites[0].Place = point(100, 100)
	ahead, beside := end(1100, 100, 300), end(100, 1100, 300)
	levels := []int64{
		value(impl.LevelAt(ground, n, "a", 900000, ahead)), value(impl.LevelAt(ground, n, "b", 900000, ahead)),
		value(impl.LevelAt(ground, n, "a", 900000, beside)), value(impl.LevelAt(ground, n, "b", 900000, beside)),
	}
	// The elevation is 0, where the beam that is tilted by 2 degrees loses a fifth of 12000; beside it, 24000 more. The path loses 91537.
	expect(t, "LevelAt of the example", levels, "[-40937 -48537 -64937 -48537]")
	path, _ := impl.PathOf(ground, end(100, 100, 300), ahead, 900000)
	expect(t, "the level and the loss", levels[1]+path.Total, 43000)
}

func TestPromise15LevelsWithErrors(t *testing.T) {
	n := network(6, 6, 3)
	for i, p := range []impl.Point{point(100, 100), point(1500, 1500), point(1501, 100), point(100, 1501), point(1100, 100), point(200000, 200000)} {
		n.Sites[i].Place = p
	}
	names := []choice[string]{{"ca", impl.OK}, {"cb", impl.OK}, {"cc", impl.ErrState}, {"cd", impl.ErrState}, {"ce", impl.ErrState}, {"cf", impl.ErrState}, {"cg", impl.ErrNotFound}, {"", impl.ErrNotFound}, {"sa", impl.ErrNotFound}}
	bad := badNetworks()
	for _, g := range groundChoices() {
		for _, net := range choicesOf(n, impl.ErrInvalid, bad[0], bad[11], bad[30]) {
			for _, at := range endChoices(end(1100, 100, 300)) { // at the place of the sector ce, but not as high
				for _, f := range frequencyChoices {
					for _, name := range names {
						level, code := impl.LevelAt(g.value, net.value, name.value, f.value, at.value)
						want := firstReported(g.code, net.code, at.code, f.code, name.code)
						if code != want || code != impl.OK && level != 0 {
							t.Errorf("LevelAt of %q at %v and %d kHz = %d, %d, want %d", name.value, at.value, f.value, level, code, want)
						}
					}
				}
			}
		}
	}
	_, code := impl.LevelAt(flat(100, 16, 16, 100), n, "ce", 900000, end(1101, 100, 300))
	expect(t, "LevelAt beside the sector", code, impl.OK)
}

// sectorText joins what the document names.
func sectorText(x impl.Sector) string {
	numbers := impl.Decimal(x.Azimuth) + "," + impl.Decimal(x.Tilt) + "," + impl.Decimal(x.Above) + "," + impl.Decimal(x.Channel)
	return x.Name + " " + x.Site + " " + x.Antenna + " " + x.Radio + " " + x.Band + " " + numbers
}

// siteText joins what the document names.
func siteText(x impl.Site) string {
	return x.Name + " " + x.Holder + " " + impl.Decimal(x.Place.X) + "," + impl.Decimal(x.Place.Y)
}

func TestPromise15TextsOfSectorsAndSites(t *testing.T) {
	for _, n := range networks() {
		for _, x := range n.Sectors {
			back, ok := impl.ReadSector(sectorText(x))
			expect(t, "ReadSector of SectorText", []any{impl.SectorText(x), back, ok}, []any{sectorText(x), x, true})
		}
		for _, x := range n.Sites {
			back, ok := impl.ReadSite(siteText(x))
			expect(t, "ReadSite of SiteText", []any{impl.SiteText(x), back, ok}, []any{siteText(x), x, true})
		}
	}
	for _, x := range badSectors() {
		back, ok := impl.ReadSector(sectorText(x))
		expect(t, "the text of a bad sector", []any{impl.SectorText(x), back, ok}, []any{"", impl.Sector{}, false})
	}
	for _, x := range badSites() {
		back, ok := impl.ReadSite(siteText(x))
		expect(t, "the text of a bad site", []any{impl.SiteText(x), back, ok}, []any{"", impl.Site{}, false})
	}
	expect(t, "the texts of the examples", impl.SectorText(hills().Sectors[0])+"; "+impl.SiteText(hills().Sites[0]), "a hill beam big low 90,2,300,5; hill one 100,200")
}

// otherSectorTexts are nearly texts of sectors.
func otherSectorTexts() []string {
	text := "a hill beam big low 90,2,300,5"
	list := []string{text + " ", " " + text, text + "\n", text + ",", text + ",0", text + " 0", text + "000", strings.Repeat("a ", 100000), "a hill beam big low", "a hill beam big low ", "a hill beam big low -", "a hill beam big 90,2,300,5"}
	for _, change := range [][2]string{
		{" ", "  "}, {" low", "  low"}, {" ", "\t"}, {" ", ","}, {"a", "A"}, {"a", ""}, {"hill", "Hill"}, {"low", "-"}, {"90,", "+90,"}, {"90,", "090,"}, {"90,", "360,"}, {"90,", "-1,"}, {"90,", ""}, {"90,", "90;"}, {"90", "90 "}, {"90", "x"},
		{",2,", ",31,"}, {",2,", ",-1,"}, {",2,", ",,"}, {",2,", ",-0,"}, {"300", "0"}, {"300", "3001"}, {"300", "300.0"}, {",5", ",-2"}, {",5", ",1000"}, {",5", ""}, {",5", ",5000000000000"}, {",5", strings.Repeat(",5", 5000)},
	} {
		list = append(list, strings.Replace(text, change[0], change[1], 1))
	}
	return list
}

// otherSiteTexts are nearly texts of sites.
func otherSiteTexts() []string {
	text := "hill one 100,200"
	list := []string{text + " ", " " + text, text + "\n", text + ",", text + ",0", text + " 0", text + "00000", strings.Repeat("a ", 100000), "hill one", "hill one ", "hill one -", "hill 100,200", "hill one 100"}
	for _, change := range [][2]string{
		{" ", "  "}, {" 100", "  100"}, {" ", "\t"}, {" ", ","}, {"hill", "Hill"}, {"hill", ""}, {"hill", "-"}, {"one", "One"}, {"one", ""}, {"one", "1"}, {"100", "+100"}, {"100", "0100"}, {"100", "-1"}, {"100", "200001"}, {"200", "200001"}, {"200", "200.0"}, {"200", ""}, {",", ", "}, {",", ",,"}, {",", ";"}, {"100", "-0"},
	} {
		list = append(list, strings.Replace(text, change[0], change[1], 1))
	}
	return list
}

func TestPromise15OtherTextsAreNotRead(t *testing.T) {
	for _, s := range append(otherSectorTexts(), append(oddTexts, otherSiteTexts()...)...) {
		if x, ok := impl.ReadSector(s); ok || x != (impl.Sector{}) {
			t.Errorf("ReadSector(%.60q) = %v, %v", s, x, ok)
		}
	}
	for _, s := range append(otherSiteTexts(), append(oddTexts, otherSectorTexts()...)...) {
		if x, ok := impl.ReadSite(s); ok || x != (impl.Site{}) {
			t.Errorf("ReadSite(%.60q) = %v, %v", s, x, ok)
		}
	}
}
