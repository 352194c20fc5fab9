package tests

import (
	"math"
	"math/rand"
	"slices"
	"testing"

	"loop.example/g00925/impl"
)

// rowsOf returns rows of levels around one that is spread below 0, the same ones for equal arguments.
func rowsOf(count, sectors int, lowest, highest int64) [][]int64 {
	source := rand.New(rand.NewSource(int64(count*1000+sectors) + highest - lowest))
	rows := make([][]int64, count)
	for i := range rows {
		rows[i] = make([]int64, sectors)
		for k := range rows[i] {
			rows[i][k] = lowest + source.Int63n(highest-lowest+1)
		}
	}
	return rows
}

// three are rows in which every sector is at some time the strongest one, and once two are equally strong.
func three() [][]int64 {
	return [][]int64{{-60000, -70000, -80000}, {-90000, -65000, -65000}, {-75000, -72000, -99000}, {-80000, -81000, -70000}}
}

// someRows are valid rows of many sizes, those at the limits among them.
func someRows() [][][]int64 {
	return [][][]int64{
		{{0}}, {{-300000}}, {{300000}}, {{300000, -300000}}, {{-300000, 300000}}, {{-60000, -70000}}, {{-70000, -70000, -70000}}, three(),
		rowsOf(32, 24, -300000, 300000), rowsOf(32, 1, -90000, 0), rowsOf(1, 24, -120000, -40000), rowsOf(9, 7, -100000, -60000), rowsOf(20, 5, -70003, -70000), rowsOf(12, 12, -300000, -240000), rowsOf(5, 3, 100000, 300000),
	}
}

// badRows are not valid, each for one reason.
func badRows() [][][]int64 {
	bad := [][][]int64{
		nil, {}, {{}}, {nil}, {{}, {}}, {{0}, {}}, {{}, {0}}, {{0, 0}, {0}}, {{0}, {0, 0}}, rowsOf(33, 3, -9, 9), rowsOf(1, 25, -9, 9), rowsOf(32, 25, -9, 9), rowsOf(33, 24, -9, 9),
		append(rowsOf(31, 4, -9, 9), zeros(3)), append(rowsOf(31, 4, -9, 9), zeros(5)), append(rowsOf(1, 24, -9, 9), zeros(25)), slices.Repeat([][]int64{{0}}, 100000), {zeros(100000)}, {{0}, zeros(100000)},
	}
	for _, v := range []int64{-300001, 300001, math.MinInt64, math.MaxInt64} {
		for _, at := range [][2]int{{0, 0}, {0, 2}, {3, 0}, {3, 2}, {1, 1}} {
			rows := three()
			rows[at[0]][at[1]] = v
			bad = append(bad, rows)
		}
	}
	return bad
}

func TestPromise17ValidRows(t *testing.T) {
	for i, rows := range someRows() {
		if !impl.ValidRows(rows) {
			t.Errorf("the rows %d are not valid", i)
		}
	}
	for i, rows := range badRows() {
		if impl.ValidRows(rows) {
			t.Errorf("the bad rows %d are valid", i)
		}
	}
}

// slowLevels returns the levels of all sectors at an end, and the code, by the words of the document.
func slowLevels(g impl.Terrain, n impl.Network, f int64, at impl.End) ([]int64, int64) {
	if len(n.Sectors) == 0 {
		return nil, impl.ErrState
	}
	var row []int64
	for _, x := range n.Sectors {
		level, code := slowLevel(g, n, x, f, at)
		if code != impl.OK {
			return nil, code
		}
		row = append(row, max(-300000, min(level, 300000)))
	}
	return row, impl.OK
}

func TestPromise17LevelsOfAllSectors(t *testing.T) {
	codes := map[int64]int{}
	for _, g := range []impl.Terrain{flat(100, 16, 16, 100), ridged(900), rough(100, 16, 16, 300), rough(75, 21, 12, 2000)} {
		for _, n := range append(networks(), weak()) {
			list := endsIn(g, 3)
			if len(n.Sites) > 0 && impl.InTerrain(g, n.Sites[0].Place) {
				list = append(list, impl.End{Place: n.Sites[0].Place, Above: 60})
			}
			f := pathFrequencies[len(n.Sectors)%len(pathFrequencies)]
			var rows [][]int64
			wantCode := int64(impl.OK)
			for _, at := range list {
				want, code := slowLevels(g, n, f, at)
				row, rowCode := impl.LevelsAt(g, n, f, at)
				expect(t, "LevelsAt", []any{row, rowCode}, []any{want, code})
				rows, wantCode = append(rows, want), firstReported(wantCode, code)
				codes[code]++
			}
			if wantCode != impl.OK {
				rows = nil
			}
			got, code := impl.LevelRows(g, n, f, list)
			expect(t, "LevelRows", []any{got, code}, []any{rows, wantCode})
			codes[code]++
		}
	}
	if codes[impl.OK] < 50 || codes[impl.ErrState] < 20 || len(codes) != 2 {
		t.Errorf("the rows have the codes %v", codes)
	}
}

func TestPromise17RowsOfManyEnds(t *testing.T) {
	g, n := rough(100, 16, 16, 300), network(7, 9, 3)
	for _, count := range []int{1, 2, 31, 32} {
		list := endsIn(g, count)
		rows, code := impl.LevelRows(g, n, 900000, list)
		if code != impl.OK || len(rows) != count || !impl.ValidRows(rows) {
			t.Fatalf("LevelRows of %d ends returns %d rows and the code %d", count, len(rows), code)
		}
		for i, at := range list {
			row, _ := impl.LevelsAt(g, n, 900000, at)
			expect(t, "a row of LevelRows", rows[i], row)
			for k, x := range n.Sectors {
				expect(t, "a level of LevelsAt", row[k], value(impl.LevelAt(g, n, x.Name, 900000, at)))
			}
		}
	}
	same := end(1100, 100, 60)
	rows, code := impl.LevelRows(g, n, 900000, slices.Repeat([]impl.End{same}, 3))
	row, _ := impl.LevelsAt(g, n, 900000, same)
	expect(t, "LevelRows of the same end", []any{rows, code}, []any{[][]int64{row, row, row}, impl.OK})
}

func TestPromise17WhatIsNotALevel(t *testing.T) {
	n := weak()
	n.Sites[0].Place, n.Sites[1].Place = point(1000, 1000), point(21000, 1000)
	n.Sectors = append(n.Sectors, impl.Sector{Name: "b", Site: "mast", Antenna: "omni", Radio: "big", Band: "low", Above: 300})
	g, at := flat(1000, 24, 24, 100), end(22000, 1000, 300)
	far, near := value(impl.LevelAt(g, n, "a", 60000000, at)), value(impl.LevelAt(g, n, "b", 60000000, at))
	if far >= -300000 || near <= -300000 {
		t.Fatalf("the levels are %d and %d", far, near)
	}
	row, code := impl.LevelsAt(g, n, 60000000, at)
	expect(t, "LevelsAt", []any{row, code}, []any{[]int64{-300000, near}, impl.OK})
	rows, code := impl.LevelRows(g, n, 60000000, []impl.End{at})
	expect(t, "LevelRows", []any{rows, code, impl.ValidRows(rows)}, []any{[][]int64{{-300000, near}}, impl.OK, true})
}

// netChoices are networks for ends at 1100,100 on the ground of groundChoices, and what they cause.
func netChoices() []choice[impl.Network] {
	good := hills()
	list := choicesOf(good, impl.ErrInvalid, badNetworks()[0], badNetworks()[11], badNetworks()[30])
	empty := hills()
	empty.Sectors = nil
	list = append(list, choicesOf(good, impl.ErrState, impl.Network{}, empty)[1:]...)
	for i, p := range []impl.Point{point(1501, 100), point(100, 1501), point(200000, 200000), point(1100, 100)} {
		for k := range 2 {
			n := hills()
			n.Sectors[k].Site = "mast"
			n.Sites[1].Place = p
			list = append(list, choice[impl.Network]{n, impl.ErrState})
		}
		// What stands at a site of no sector does not matter.
		n := hills()
		n.Sites[1].Place = p
		list = append(list, choice[impl.Network]{n, impl.OK})
		if i == 0 {
			n = hills()
			n.Sectors[0].Site, n.Sites[1].Place = "mast", point(1100, 101)
			list = append(list, choice[impl.Network]{n, impl.OK})
		}
	}
	return list
}

func TestPromise17LevelsWithErrors(t *testing.T) {
	for _, g := range groundChoices() {
		for _, n := range netChoices() {
			for _, at := range endChoices(end(1100, 100, 300)) {
				for _, f := range frequencyChoices {
					row, code := impl.LevelsAt(g.value, n.value, f.value, at.value)
					rows, rowsCode := impl.LevelRows(g.value, n.value, f.value, []impl.End{at.value})
					want := firstReported(g.code, n.code, at.code, f.code)
					if code != want || rowsCode != want || code != impl.OK && len(row)+len(rows) > 0 {
						t.Errorf("LevelsAt and LevelRows at %v and %d kHz = %v, %d, %v, %d, want %d", at.value, f.value, row, code, rows, rowsCode, want)
					}
				}
			}
		}
	}
}

// endLists are lists of ends, and what they cause; those behind the last limit would be valid.
func endLists() []choice[[]impl.End] {
	good, high, beyond, bad := end(1100, 100, 300), end(100, 200, 5), end(1501, 0, 5), end(1100, 100, 0)
	many := slices.Repeat([]impl.End{good}, 32)
	list := []choice[[]impl.End]{{many, impl.OK}, {many[:1], impl.OK}, {nil, impl.ErrRange}, {[]impl.End{}, impl.ErrRange}}
	for _, start := range []int{0, 1, 31} {
		for _, last := range choicesOf(good, impl.ErrInvalid, bad, impl.End{}) {
			list = append(list, choice[[]impl.End]{append(slices.Clone(many[:start]), last.value), last.code})
			list = append(list, choice[[]impl.End]{append([]impl.End{beyond, last.value}, many[:start]...), firstReported(last.code, impl.ErrRange)})
		}
		list = append(list,
			choice[[]impl.End]{append(slices.Clone(many[:start]), beyond), impl.ErrRange},
			choice[[]impl.End]{append(slices.Clone(many[:start]), high), impl.ErrState},
			choice[[]impl.End]{append([]impl.End{high}, many[:start]...), impl.ErrState})
	}
	for _, more := range [][]impl.End{many, slices.Repeat(many, 3000)} {
		list = append(list,
			choice[[]impl.End]{append(slices.Clone(more), good), impl.ErrRange},
			choice[[]impl.End]{append(slices.Clone(more), high), impl.ErrRange},
			choice[[]impl.End]{append(slices.Clone(more), bad), impl.ErrInvalid})
	}
	return list
}

func TestPromise17RowsWithErrors(t *testing.T) {
	beyond := hills()
	beyond.Sites[0].Place = point(1501, 0)
	nets := append(netChoices()[:6], choice[impl.Network]{beyond, impl.ErrState})
	for _, g := range groundChoices() {
		for _, n := range nets {
			for _, list := range endLists() {
				for _, f := range frequencyChoices {
					rows, code := impl.LevelRows(g.value, n.value, f.value, list.value)
					want := firstReported(g.code, n.code, list.code, f.code)
					if code != want || code != impl.OK && len(rows) > 0 || code == impl.OK && len(rows) != len(list.value) {
						t.Errorf("LevelRows at %d ends and %d kHz = %d rows, %d, want %d", len(list.value), f.value, len(rows), code, want)
					}
				}
			}
		}
	}
}

// slowServer returns the first one of the strongest sectors.
func slowServer(row []int64) int64 {
	for i, v := range row {
		if countOf(row, func(w int64) bool { return w > v }) == 0 {
			return int64(i)
		}
	}
	return -1
}

func TestPromise17ServersAreTheStrongest(t *testing.T) {
	for _, rows := range someRows() {
		var want []int64
		for _, row := range rows {
			want = append(want, slowServer(row))
		}
		servers, code := impl.ServersOf(rows)
		expect(t, "ServersOf", []any{servers, code}, []any{want, impl.OK})
	}
	servers, _ := impl.ServersOf(three())
	expect(t, "ServersOf with equal levels", servers, "[0 1 1 2]")
	for _, rows := range badRows() {
		servers, code := impl.ServersOf(rows)
		expect(t, "ServersOf bad rows", []any{servers, code}, []any{[]int64{}, impl.ErrInvalid})
	}
}

// lowered returns the levels that count beside a sector, by the words of the document.
func lowered(levels, channels, table []int64, sector int) []int64 {
	var list []int64
	for k, v := range levels {
		d := max(channels[k]-channels[sector], channels[sector]-channels[k])
		if k != sector && channels[k] != -1 && d < int64(len(table)) {
			list = append(list, max(v-table[d], -300000))
		}
	}
	return list
}

// slowRatio returns the ratio of a sector with a channel by the words of the document.
func slowRatio(levels, channels, table []int64, sector int) int64 {
	others := lowered(levels, channels, table, sector)
	if len(others) == 0 {
		return 200000
	}
	return max(-200000, min(levels[sector]-slowSum(others), 200000))
}

// someTables are tables of many lengths.
func someTables() [][]int64 {
	long := zeros(64)
	for i := range long {
		long[i] = min(int64(i)*2500, 120000)
	}
	return [][]int64{{0}, {0, 0}, {0, 120000}, {0, 10000, 30000}, {0, 2576, 11292, 58276}, zeros(64), long}
}

var badTables = [][]int64{nil, {}, {1}, {-1}, {0, -1}, {0, 5, 4}, {0, 120001}, {0, math.MaxInt64}, {0, math.MinInt64}, zeros(65), zeros(100000)}

// channelLists returns lists of channels for a number of sectors: some near to each other, some with sectors without one.
func channelLists(sectors int) [][]int64 {
	source := rand.New(rand.NewSource(int64(sectors)))
	lists := [][]int64{zeros(sectors), slices.Repeat([]int64{-1}, sectors), slices.Repeat([]int64{999}, sectors)}
	for _, spread := range []int64{2, 3, 5, 70, 999} {
		for range 3 {
			list := make([]int64, sectors)
			for i := range list {
				list[i] = source.Int63n(spread+2) - 1
			}
			lists = append(lists, list)
		}
	}
	return lists
}

func TestPromise17RatiosOfASector(t *testing.T) {
	kinds := map[string]int{}
	for _, rows := range someRows() {
		for i, levels := range rows[:min(len(rows), 4)] {
			for k, channels := range channelLists(len(levels)) {
				table := someTables()[(i+k)%len(someTables())]
				for sector, c := range channels {
					ratio, code := impl.SignalRatio(levels, channels, table, int64(sector))
					if c == -1 {
						expect(t, "SignalRatio without a channel", []int64{ratio, code}, []int64{0, impl.ErrState})
						kinds["without a channel"]++
						continue
					}
					expect(t, "SignalRatio", []int64{ratio, code}, []int64{slowRatio(levels, channels, table, sector), impl.OK})
					switch {
					case len(lowered(levels, channels, table, sector)) == 0:
						kinds["with no others"]++
					case ratio == 200000 || ratio == -200000:
						kinds["at a limit"]++
					case slices.Contains(lowered(levels, channels, table, sector), -300000):
						kinds["with the least level"]++
					default:
						kinds["with others"]++
					}
				}
			}
		}
	}
	if len(kinds) != 5 || slices.Min([]int{kinds["with no others"], kinds["at a limit"], kinds["with the least level"], kinds["with others"]}) < 20 {
		t.Errorf("the ratios are %v", kinds)
	}
}

func TestPromise17ExamplesOfRatios(t *testing.T) {
	levels, table := []int64{-60000, -70000, -80000}, []int64{0, 10000, 30000}
	for _, c := range []struct {
		channels     []int64
		sector, want int64
	}{
		{[]int64{5, 5, -1}, 0, 10000}, {[]int64{5, 6, -1}, 0, 20000}, {[]int64{5, 4, -1}, 0, 20000}, {[]int64{5, 7, -1}, 0, 40000}, {[]int64{5, 3, -1}, 0, 40000},
		// A difference of 3 is beyond the table; sectors without a channel do not count, also if they would be near to it.
		{[]int64{5, 8, -1}, 0, 200000}, {[]int64{5, 2, -1}, 0, 200000}, {[]int64{0, -1, -1}, 0, 200000}, {[]int64{1, -1, -1}, 0, 200000}, {[]int64{-1, -1, 0}, 2, 200000}, {[]int64{999, 0, 1}, 0, 200000}, {[]int64{0, 999, -1}, 1, 200000},
		{[]int64{5, 5, 6}, 0, 9957}, {[]int64{5, 8, 5}, 0, 20000}, {[]int64{5, 5, -1}, 1, -10000}, {[]int64{5, -1, 5}, 2, -20000}, {[]int64{0, -1, 1}, 2, -10000},
	} {
		ratio, code := impl.SignalRatio(levels, c.channels, table, c.sector)
		if ratio != c.want || code != impl.OK {
			t.Errorf("SignalRatio of the sector %d with the channels %v = %d, %d, want %d", c.sector, c.channels, ratio, code, c.want)
		}
	}
	ratio, _ := impl.SignalRatio([]int64{-60000, -63010, -63010}, []int64{7, 7, 7}, table, 0)
	expect(t, "SignalRatio of two that are as strong together", ratio, 0)
}

func TestPromise17LimitsOfRatios(t *testing.T) {
	for _, c := range []struct{ own, other, apart, want int64 }{
		{300000, -300000, 0, 200000}, {-300000, 300000, 0, -200000}, {100000, -100000, 0, 200000}, {100000, -99999, 0, 199999}, {100000, -100001, 0, 200000}, {-100000, 100000, 0, -200000}, {-99999, 100000, 0, -199999}, {-100001, 100000, 0, -200000},
		// The lowered level is at least the least one.
		{-200000, -250000, 1, 100000}, {-200000, -180000, 1, 100000}, {-200000, -179999, 1, 99999}, {-200000, -180001, 1, 100000}, {-300000, -300000, 1, 0}, {-299999, -300000, 0, 1},
	} {
		ratio, code := impl.SignalRatio([]int64{c.own, c.other}, []int64{3, 3 + c.apart}, []int64{0, 120000}, 0)
		if ratio != c.want || code != impl.OK {
			t.Errorf("SignalRatio of %d beside %d with the difference %d = %d, %d, want %d", c.own, c.other, c.apart, ratio, code, c.want)
		}
	}
	// Behind the end of the longest table nothing counts.
	for _, d := range []int64{62, 63, 64} {
		ratio, _ := impl.SignalRatio([]int64{-60000, -70000}, []int64{100, 100 + d}, zeros(64), 0)
		back, _ := impl.SignalRatio([]int64{-60000, -70000}, []int64{100, 100 - d}, zeros(64), 0)
		want := int64(10000)
		if d == 64 {
			want = 200000
		}
		expect(t, "SignalRatio at the end of the table", []int64{ratio, back}, []int64{want, want})
	}
	alone, code := impl.SignalRatio([]int64{-300000}, []int64{0}, []int64{0}, 0)
	expect(t, "SignalRatio of the only sector", []int64{alone, code}, []int64{200000, impl.OK})
}

func TestPromise17MoreDistanceNeverHurts(t *testing.T) {
	levels, table := []int64{-70000, -60000, -90000, -72000, -300000}, []int64{0, 2576, 11292, 58276}
	for _, channels := range channelLists(5) {
		for k := 1; k < 5; k++ {
			if channels[0] == -1 {
				continue
			}
			last := int64(math.MinInt64)
			for d := range int64(6) {
				// A channel above 999 would not be valid.
				moved := slices.Clone(channels)
				moved[k] = channels[0] + d
				if channels[0] > 900 {
					moved[k] = channels[0] - d
				}
				ratio, code := impl.SignalRatio(levels, moved, table, 0)
				if code != impl.OK || ratio < last {
					t.Errorf("SignalRatio falls from %d to %d with the code %d", last, ratio, code)
				}
				last = ratio
			}
			silent := slices.Clone(channels)
			silent[k] = -1
			expect(t, "the ratio without a sector", value(impl.SignalRatio(levels, silent, table, 0)), last)
		}
	}
}

// channelListChoices are channels for three sectors that cause no error, and others.
func channelListChoices() []choice[[]int64] {
	return choicesOf([]int64{0, 999, 5}, impl.ErrInvalid, nil, []int64{}, []int64{5}, []int64{5, 5}, []int64{5, 5, 5, 5}, []int64{5, -2, 5}, []int64{1000, 5, 5}, []int64{5, 5, math.MinInt64}, []int64{5, 5, math.MaxInt64}, []int64{5, 5, 5, -1}, zeros(100000))
}

func TestPromise17RatiosOfASectorWithErrors(t *testing.T) {
	rows := choicesOf(three()[0], impl.ErrInvalid, nil, []int64{}, []int64{-300001, 0, 0}, []int64{0, 0, 300001}, []int64{0, math.MaxInt64, 0}, []int64{math.MinInt64, 0, 0}, zeros(6), zeros(25), zeros(100000))
	lists := append(channelListChoices(), choice[[]int64]{[]int64{-1, 5, 5}, impl.ErrState}, choice[[]int64]{[]int64{-1, -1, -1}, impl.ErrState}, choice[[]int64]{[]int64{5, -1, -1}, impl.OK})
	for _, levels := range rows {
		for _, channels := range lists {
			for _, table := range choicesOf([]int64{0, 10000}, impl.ErrInvalid, badTables...) {
				for _, sector := range choicesOf(int64(0), impl.ErrRange, -1, 3, 24, math.MinInt64, math.MaxInt64) {
					ratio, code := impl.SignalRatio(levels.value, channels.value, table.value, sector.value)
					want := firstReported(levels.code, channels.code, table.code, sector.code)
					if code != want || code != impl.OK && ratio != 0 {
						t.Errorf("SignalRatio(%.3d, %.4d, %.3d, %d) = %d, %d, want %d", head(levels.value), head(channels.value), head(table.value), sector.value, ratio, code, want)
					}
				}
			}
		}
	}
	// As many levels and channels as are too many, or none.
	for _, count := range []int{0, 25} {
		ratio, code := impl.SignalRatio(zeros(count), zeros(count), []int64{0}, 0)
		expect(t, "SignalRatio of too many sectors", []int64{ratio, code}, []int64{0, impl.ErrInvalid})
	}
	_, code := impl.SignalRatio(zeros(24), zeros(24), []int64{0}, 23)
	expect(t, "SignalRatio of the last sector", code, impl.OK)
}

// head returns the first elements of a list.
func head(list []int64) []int64 { return list[:min(len(list), 5)] }

// slowWorstRow returns the row with the least ratio of its server, this ratio and the code, by the words of the document.
func slowWorstRow(rows [][]int64, channels, table []int64) (int, int64, int64) {
	worst, least := 0, int64(math.MaxInt64)
	for i, row := range rows {
		server := int(slowServer(row))
		if channels[server] == -1 {
			return 0, 0, impl.ErrState
		}
		if ratio := slowRatio(row, channels, table, server); ratio < least {
			worst, least = i, ratio
		}
	}
	return worst, least, impl.OK
}

func TestPromise17WorstRatios(t *testing.T) {
	codes := map[int64]int{}
	for i, rows := range someRows() {
		for k, channels := range channelLists(len(rows[0])) {
			table := someTables()[(i+k)%len(someTables())]
			worst, ratio, code := impl.WorstRatio(rows, channels, table)
			slow, slowRatio, slowCode := slowWorstRow(rows, channels, table)
			expect(t, "WorstRatio", []any{worst, ratio, code}, []any{slow, slowRatio, slowCode})
			codes[code]++
		}
	}
	if codes[impl.OK] < 50 || codes[impl.ErrState] < 20 || len(codes) != 2 {
		t.Errorf("the worst ratios have the codes %v", codes)
	}
}

func TestPromise17ExamplesOfWorstRatios(t *testing.T) {
	table := []int64{0, 10000, 30000}
	for _, c := range []struct {
		rows                [][]int64
		channels            []int64
		worst, ratio, error int64
	}{
		{three()[:3], []int64{5, 5, 6}, 2, 2999, impl.OK}, {three()[:3], []int64{5, 6, 6}, 1, -1, impl.OK},
		// The sectors 0 and 1 serve the first three rows, and the sector 2 the last one.
		{three()[:3], []int64{5, -1, 6}, 0, 0, impl.ErrState}, {three()[:3], []int64{-1, 5, 6}, 0, 0, impl.ErrState}, {three()[:3], []int64{5, 5, -1}, 2, 3000, impl.OK}, {three(), []int64{5, 5, -1}, 0, 0, impl.ErrState}, {three()[1:3], []int64{-1, 5, -1}, 0, 200000, impl.OK},
		// The first one of several rows.
		{[][]int64{{-60, -70}, {-50, -60}, {-60, -70}}, []int64{1, 1}, 0, 10, impl.OK}, {[][]int64{{-60, -71}, {-50, -60}, {-70, -60}}, []int64{1, 1}, 1, 10, impl.OK}, {[][]int64{{-60, -70}, {-50, -60}}, []int64{1, 9}, 0, 200000, impl.OK},
		// The first one of two servers is meant, also if the other one has a channel.
		{[][]int64{{-60, -60}}, []int64{-1, 5}, 0, 0, impl.ErrState}, {[][]int64{{-60, -60}}, []int64{5, -1}, 0, 200000, impl.OK}, {[][]int64{{-60, -60}}, []int64{5, 5}, 0, 0, impl.OK},
	} {
		worst, ratio, code := impl.WorstRatio(c.rows, c.channels, table)
		if worst != c.worst || ratio != c.ratio || code != c.error {
			t.Errorf("WorstRatio(%v, %v) = %d, %d, %d", c.rows, c.channels, worst, ratio, code)
		}
	}
}

func TestPromise17WorstRatiosWithErrors(t *testing.T) {
	lists := append(channelListChoices(), choice[[]int64]{[]int64{-1, 5, 5}, impl.ErrState}, choice[[]int64]{[]int64{5, 5, -1}, impl.ErrState})
	for _, rows := range choicesOf(three(), impl.ErrInvalid, badRows()...) {
		for _, channels := range lists {
			for _, table := range choicesOf([]int64{0, 10000}, impl.ErrInvalid, badTables...) {
				worst, ratio, code := impl.WorstRatio(rows.value, channels.value, table.value)
				want := firstReported(rows.code, channels.code, table.code)
				if code != want || code != impl.OK && (worst != 0 || ratio != 0) {
					t.Errorf("WorstRatio of %d rows, %.4d and %.3d = %d, %d, %d, want %d", len(rows.value), head(channels.value), head(table.value), worst, ratio, code, want)
				}
			}
		}
	}
}

// slowPair returns an element of PairRatios by the words of the document.
func slowPair(rows [][]int64, i, k int) int64 {
	ratio := int64(200000)
	for _, row := range rows {
		if i != k && slowServer(row) == int64(i) {
			ratio = min(ratio, row[i]-row[k])
		}
	}
	return ratio
}

func TestPromise17RatiosOfPairs(t *testing.T) {
	for _, rows := range someRows() {
		count := len(rows[0])
		want := make([][]int64, count)
		for i := range want {
			for k := range count {
				want[i] = append(want[i], slowPair(rows, i, k))
			}
		}
		ratios, code := impl.PairRatios(rows)
		expect(t, "PairRatios", []any{ratios, code}, []any{want, impl.OK})
	}
	ratios, _ := impl.PairRatios(three())
	expect(t, "PairRatios of three sectors", ratios, "[[200000 10000 20000] [3000 200000 0] [10000 11000 200000]]")
	ratios, _ = impl.PairRatios([][]int64{{300000, -300000, 100001, 100000}, {300000, -300000, 99999, 99999}})
	expect(t, "PairRatios at the limit", ratios, "[[200000 200000 199999 200000] [200000 200000 200000 200000] [200000 200000 200000 200000] [200000 200000 200000 200000]]")
	for _, rows := range badRows() {
		ratios, code := impl.PairRatios(rows)
		expect(t, "PairRatios of bad rows", []any{ratios, code}, []any{[]int64{}, impl.ErrInvalid})
	}
}

// ratiosOf returns a matrix of ratios that rows need not have, the same one for equal arguments.
func ratiosOf(sectors int, limit int64) [][]int64 {
	return rowsOf(sectors, sectors, -limit, limit)
}

// slowNeed returns an element of NeedMatrix by the words of the document.
func slowNeed(ratios [][]int64, target int64, table []int64, i, k int) int {
	if i == k {
		return 0
	}
	for steps, v := range table {
		if v >= target-min(ratios[i][k], ratios[k][i]) {
			return steps
		}
	}
	return len(table)
}

func TestPromise17DifferencesThatAreNeeded(t *testing.T) {
	for _, ratios := range [][][]int64{{{0}}, {{-200000}}, {{200000}}, ratiosOf(24, 200000), ratiosOf(24, 0), ratiosOf(2, 30000), ratiosOf(7, 50000), ratiosOf(12, 3)} {
		for _, table := range someTables() {
			for _, target := range []int64{-200000, -30000, -1, 0, 1, 9000, 30000, 120000, 120001, 200000} {
				want := make([][]int, len(ratios))
				for i := range want {
					for k := range ratios {
						want[i] = append(want[i], slowNeed(ratios, target, table, i, k))
					}
				}
				need, code := impl.NeedMatrix(ratios, target, table)
				expect(t, "NeedMatrix", []any{need, code}, []any{want, impl.OK})
			}
		}
	}
}

func TestPromise17ExamplesOfNeeds(t *testing.T) {
	rows, table := [][]int64{{-60000, -70000}}, []int64{0, 10000, 30000}
	ratios, _ := impl.PairRatios(rows)
	for _, c := range []struct{ target, want int64 }{
		{-200000, 0}, {0, 0}, {10000, 0}, {10001, 1}, {15000, 1}, {20000, 1}, {20001, 2}, {40000, 2},
		// The table does not reach so far, so that the sectors must be beyond it.
		{40001, 3}, {200000, 3},
	} {
		need, code := impl.NeedMatrix(ratios, c.target, table)
		p, codeOf := impl.ProblemOf(rows, c.target, table, [][]int64{{0, 1}, {5}})
		want := [][]int64{{0, c.want}, {c.want, 0}}
		expect(t, "NeedMatrix and ProblemOf", []any{need, code, p.Apart, codeOf, p.Domains}, []any{want, 0, want, 0, "[[0 1] [5]]"})
	}
	// The lesser one of both ratios counts, and that of a sector and itself does not.
	need, _ := impl.NeedMatrix([][]int64{{-200000, 5000, 40000}, {20000, 200000, -5000}, {40000, 40000, 0}}, 35000, table)
	expect(t, "NeedMatrix of three sectors", need, "[[0 2 0] [2 0 3] [0 3 0]]")
}

// badRatios are not matrices of ratios, each for one reason.
func badRatios() [][][]int64 {
	bad := [][][]int64{nil, {}, {{}}, {nil}, {{0, 0}}, {{0}, {0}}, {{0, 0}, {0}}, {{0}, {0, 0}}, {{0, 0}, {0, 0, 0}}, {{0, 0}, {0, 0}, {0, 0}}, {{0, 0}, {}}, ratiosOf(25, 9), slices.Repeat([][]int64{{0}}, 100000), {zeros(100000)}}
	for _, v := range []int64{-200001, 200001, math.MinInt64, math.MaxInt64} {
		for i := range 2 {
			for k := range 2 {
				ratios := ratiosOf(2, 9)
				ratios[i][k] = v
				bad = append(bad, ratios)
			}
		}
	}
	return bad
}

var targetChoices = append(choicesOf(int64(15000), impl.ErrRange, -200001, 200001, math.MinInt64, math.MaxInt64), choice[int64]{-200000, impl.OK}, choice[int64]{200000, impl.OK})

func TestPromise17NeedsWithErrors(t *testing.T) {
	for _, ratios := range choicesOf(ratiosOf(2, 200000), impl.ErrInvalid, badRatios()...) {
		for _, table := range choicesOf([]int64{0, 10000}, impl.ErrInvalid, badTables...) {
			for _, target := range targetChoices {
				need, code := impl.NeedMatrix(ratios.value, target.value, table.value)
				want := firstReported(ratios.code, table.code, target.code)
				if code != want || code != impl.OK && len(need) > 0 {
					t.Errorf("NeedMatrix of %d ratios, %d and %.3d = %v, %d, want %d", len(ratios.value), target.value, head(table.value), need, code, want)
				}
			}
		}
	}
}

// badDomains are not domains, each for one reason.
var badDomains = [][]int64{nil, {}, {-1}, {1000}, {-1, 5}, {5, 1000}, {5, 5}, {5, 4}, {0, 1, 2, 2}, {0, 3, 1}, {math.MinInt64}, {0, math.MaxInt64}, upTo(33), zeros(100000)}

// upTo returns the first channels.
func upTo(count int64) []int64 {
	list := make([]int64, count)
	for i := range list {
		list[i] = int64(i)
	}
	return list
}

// domainChoices are domains for three sectors, and what they cause.
func domainChoices() []choice[[][]int64] {
	good := [][]int64{{0}, {999}, upTo(32)}
	list := []choice[[][]int64]{{good, impl.OK}, {[][]int64{{5}, {5}, {5}}, impl.OK}, {nil, impl.ErrState}, {[][]int64{}, impl.ErrState}, {good[:1], impl.ErrState}, {good[:2], impl.ErrState}, {append(slices.Clone(good), good[0]), impl.ErrState}, {slices.Repeat(good, 30000), impl.ErrState}}
	for _, bad := range badDomains {
		for i := range 3 {
			domains := slices.Clone(good)
			domains[i] = bad
			list = append(list, choice[[][]int64]{domains, impl.ErrInvalid}, choice[[][]int64]{domains[:i+1], impl.ErrInvalid})
		}
		list = append(list, choice[[][]int64]{append(slices.Clone(good), bad), impl.ErrInvalid})
	}
	return list
}

func TestPromise17ProblemsWithErrors(t *testing.T) {
	lists := domainChoices()
	for _, rows := range choicesOf(three(), impl.ErrInvalid, badRows()...) {
		for _, table := range choicesOf([]int64{0, 10000}, impl.ErrInvalid, badTables...) {
			for _, target := range targetChoices {
				for _, domains := range lists {
					p, code := impl.ProblemOf(rows.value, target.value, table.value, domains.value)
					want := firstReported(rows.code, table.code, target.code, domains.code)
					if code != want || code != impl.OK && (len(p.Domains) > 0 || len(p.Apart) > 0) {
						t.Errorf("ProblemOf of %d rows, %d, %.3d and %d domains = %d, want %d", len(rows.value), target.value, head(table.value), len(domains.value), code, want)
					}
				}
			}
		}
	}
}

func TestPromise17ProblemsOfRows(t *testing.T) {
	for i, rows := range someRows() {
		domains := make([][]int64, len(rows[0]))
		for k := range domains {
			domains[k] = upTo(int64(1 + k%32))
		}
		for _, table := range someTables() {
			target := []int64{-200000, 0, 9000, 30000, 200000}[i%5]
			p, code := impl.ProblemOf(rows, target, table, domains)
			ratios, _ := impl.PairRatios(rows)
			need, needCode := impl.NeedMatrix(ratios, target, table)
			expect(t, "ProblemOf", []any{p.Domains, p.Apart, code, needCode}, []any{domains, need, impl.OK, impl.OK})
			for a := range p.Apart {
				for b := range p.Apart {
					if p.Apart[a][b] != p.Apart[b][a] || p.Apart[a][b] < 0 || p.Apart[a][b] > int64(len(table)) || p.Apart[a][a] != 0 {
						t.Errorf("the sectors %d and %d need %d", a, b, p.Apart[a][b])
					}
				}
			}
		}
	}
}

// assignments visits all assignments of a problem without violations.
func assignments(p impl.Problem, visit func(list []int64)) {
	var search func(list []int64)
	search = func(list []int64) {
		if len(list) == len(p.Domains) {
			visit(list)
			return
		}
		for _, c := range p.Domains[len(list)] {
			far := true
			for i, d := range list {
				far = far && max(c-d, d-c) >= p.Apart[i][len(list)]
			}
			if far {
				search(append(list, c))
			}
		}
	}
	search(make([]int64, 0, len(p.Domains)))
}

// only returns the channels of two sectors; the others have none.
func only(channels []int64, i, k int) []int64 {
	list := slices.Repeat([]int64{-1}, len(channels))
	list[i], list[k] = channels[i], channels[k]
	return list
}

// expectKeptAway checks that every other sector is as far from the server of each row as demanded.
func expectKeptAway(t *testing.T, rows [][]int64, channels, table []int64, target int64) {
	t.Helper()
	for _, row := range rows {
		server := int(slowServer(row))
		for k := range row {
			if k == server {
				continue
			}
			d := max(channels[k]-channels[server], channels[server]-channels[k])
			if d < int64(len(table)) && row[server]-row[k]+table[d] < target {
				t.Errorf("with the channels %v the sector %d is too strong beside %d in %v", channels, k, server, row)
			}
			if ratio, code := impl.SignalRatio(row, only(channels, server, k), table, int64(server)); code != impl.OK || ratio < target {
				t.Errorf("with the channels %v the ratio of the sectors %d and %d in %v is %d, %d", channels, server, k, row, ratio, code)
			}
		}
	}
	// All others together are at most as strong as so many that are as strong as allowed.
	others := max(1, int64(len(channels)-1))
	if _, worst, code := impl.WorstRatio(rows, channels, table); code != impl.OK || worst < target-impl.LogDb(1000000000*others)+90000 {
		t.Errorf("with the channels %v the worst ratio is %d, %d", channels, worst, code)
	}
}

func TestPromise17AssignmentsKeepSectorsAway(t *testing.T) {
	found, demanding := 0, 0
	for sectors := 1; sectors <= 4; sectors++ {
		for count := 1; count <= 4; count++ {
			for _, highest := range []int64{-80000, -40000, 0} {
				rows := rowsOf(count, sectors, -100000, highest)
				for i, table := range [][]int64{{0, 10000, 30000}, {0, 2576, 11292, 58276}, {0}, {0, 0, 120000}} {
					target := []int64{9000, 25000, -5000, 40000}[(i+count)%4]
					p, code := impl.ProblemOf(rows, target, table, slices.Repeat([][]int64{{0, 1, 2, 3, 5, 8}}, sectors))
					expect(t, "ProblemOf", code, impl.OK)
					assignments(p, func(channels []int64) {
						found++
						if slices.Max(slices.Concat(p.Apart...)) > 0 {
							demanding++
						}
						expectKeptAway(t, rows, channels, table, target)
					})
				}
			}
		}
	}
	if found < 10000 || demanding < 5000 {
		t.Errorf("there are %d assignments, %d of them with constraints", found, demanding)
	}
}

func TestPromise17NoMoreIsDemanded(t *testing.T) {
	tried := 0
	for _, rows := range [][][]int64{three(), rowsOf(9, 7, -100000, -60000), rowsOf(20, 5, -70003, -70000), rowsOf(32, 24, -120000, 0)} {
		for _, table := range someTables() {
			for _, target := range []int64{0, 9000, 30000, 100000} {
				p, _ := impl.ProblemOf(rows, target, table, slices.Repeat([][]int64{{0}}, len(rows[0])))
				for a := range p.Apart {
					for b := range a {
						if p.Apart[a][b] == 0 {
							continue
						}
						tried++
						channels := zeros(len(rows[0]))
						channels[a] = p.Apart[a][b] - 1
						near := func(row []int64) bool {
							server := slowServer(row)
							return (server == int64(a) || server == int64(b)) && value(impl.SignalRatio(row, only(channels, a, b), table, server)) < target
						}
						if !slices.ContainsFunc(rows, near) {
							t.Errorf("the sectors %d and %d need not be so far apart as %d", a, b, p.Apart[a][b])
						}
					}
				}
			}
		}
	}
	if tried < 500 {
		t.Errorf("only %d pairs of sectors have constraints", tried)
	}
}
