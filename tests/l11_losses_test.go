package tests

import (
	"math"
	"math/big"
	"slices"
	"strings"
	"testing"

	"loop.example/g00925/impl"
)

// classRows is the document's table of classes.
var classRows = []struct {
	name         string
	height, loss int64
}{
	{"open", 0, 0}, {"field", 20, 1000}, {"water", 10, 500}, {"trees", 120, 12000}, {"village", 70, 8000}, {"suburb", 90, 10000}, {"town", 160, 16000}, {"city", 240, 20000},
}

// The document's tables by frequency: rows of f / 1000 and a value.
var (
	rowsOfK      = [][2]int64{{1000, -42000}, {6000, -28000}, {10000, -19500}, {20000, -11200}, {40000, -4000}, {80000, 500}, {100000, 900}}
	rowsOfA      = [][2]int64{{1000, 950}, {6000, 1300}, {10000, 1250}, {20000, 1070}, {40000, 920}, {80000, 740}, {100000, 700}}
	rowsOfGas    = [][2]int64{{1000, 5}, {10000, 14}, {20000, 110}, {22000, 190}, {30000, 90}, {50000, 500}, {60000, 15000}, {70000, 450}, {100000, 480}}
	rowsOfLeaves = [][2]int64{{100, 30}, {1000, 150}, {10000, 900}, {100000, 4000}}
)

// Numbers that are not as stated.
var (
	badClasses = []int64{-1, 8, math.MinInt64, math.MaxInt64}
	badHeights = []int64{-1, 90001, math.MinInt64, math.MaxInt64}
	badRains   = []int64{-1, 201, math.MinInt64, math.MaxInt64}
	badDepths  = []int64{-1, 1001, math.MinInt64, math.MaxInt64}
)

// tabled are frequencies at, around and between the rows of the tables and the limits of the bands, in ascending order.
func tabled() []int64 {
	list := slices.Clone(someFrequencies)
	for _, rows := range [][][2]int64{rowsOfK, rowsOfGas, rowsOfLeaves} {
		for i, row := range rows {
			list = append(list, 1000*row[0]-1, 1000*row[0], 1000*row[0]+1, 1000*row[0]+999, 1000*row[0]+1000)
			if i > 0 {
				before := rows[i-1][0]
				list = append(list, 500*(before+row[0]), 1000*before+333*(row[0]-before))
			}
		}
	}
	for _, limit := range []int64{300000, 1000000, 3000000, 10000000} {
		list = append(list, limit-1, limit, limit+1)
	}
	list = slices.DeleteFunc(list, func(f int64) bool { return f > 100000000 })
	slices.Sort(list)
	return slices.Compact(list)
}

// slowRow returns the value of a table at a frequency by the words of the document.
func slowRow(rows [][2]int64, f int64) int64 {
	x, last := f/1000, rows[len(rows)-1]
	if x <= rows[0][0] {
		return rows[0][1]
	}
	for i, row := range rows[1:] {
		if before := rows[i]; x < row[0] {
			return before[1] + nearest((row[1]-before[1])*(x-before[0]), row[0]-before[0])
		}
	}
	return last[1]
}

func TestPromise12Classes(t *testing.T) {
	for class, row := range classRows {
		expect(t, "ClutterName", impl.ClutterName(int64(class)), row.name)
		expect(t, "ClutterHeight", impl.ClutterHeight(int64(class)), row.height)
		named, ok := impl.ClassNamed(row.name)
		expect(t, "ClassNamed", []any{named, ok}, []any{class, true})
	}
	for _, bad := range badClasses {
		expect(t, "no class", []any{impl.ClutterName(bad), impl.ClutterHeight(bad)}, []any{"", 0})
	}
}

func TestPromise12OtherWordsAreNoClasses(t *testing.T) {
	words := append([]string{"Trees", "TREES", "tree", "treess", " trees", "trees ", "trees\n", "trees\x00", "a", "zzz", "watez", "waterr", "3", "open,", "opeo", "citx", "city\xff"}, oddTexts...)
	for _, s := range words {
		class, ok := impl.ClassNamed(s)
		expect(t, "ClassNamed another word", []any{class, ok}, "[0 false]")
	}
	for _, row := range classRows {
		for _, s := range []string{row.name[1:], row.name[:len(row.name)-1], row.name + "a", "a" + row.name, strings.ToUpper(row.name), strings.Repeat(row.name, 2)} {
			class, ok := impl.ClassNamed(s)
			expect(t, "ClassNamed nearly a name", []any{class, ok}, "[0 false]")
		}
	}
}

// slowClutter returns the loss by clutter by the words of the document.
func slowClutter(class, f, above int64) int64 {
	row := classRows[class]
	if above >= row.height {
		return 0
	}
	p := int64(150)
	for _, band := range [][2]int64{{10000000, 125}, {3000000, 100}, {1000000, 75}, {300000, 50}} {
		if f <= band[0] {
			p = band[1]
		}
	}
	return nearest(p*row.loss*(row.height-above), 100*row.height)
}

func TestPromise12LossesByClutter(t *testing.T) {
	example, code := impl.ClutterLoss(3, 900000, 60)
	expect(t, "the document's example", []int64{example, code}, "[4500 0]")
	heights := []int64{1000, 3000, 89999, 90000}
	for above := int64(0); above <= 245; above++ {
		heights = append(heights, above)
	}
	for class := range int64(8) {
		for _, f := range tabled() {
			for _, above := range heights {
				loss, code := impl.ClutterLoss(class, f, above)
				if want := slowClutter(class, f, above); loss != want || code != impl.OK {
					t.Errorf("ClutterLoss(%d, %d, %d) = %d, %d, want %d", class, f, above, loss, code, want)
				}
			}
		}
	}
}

func TestPromise12BandsOfClutter(t *testing.T) {
	var losses []int64
	for _, f := range []int64{1, 300000, 300001, 1000000, 1000001, 3000000, 3000001, 10000000, 10000001, 100000000} {
		losses = append(losses, value(impl.ClutterLoss(7, f, 0)))
	}
	expect(t, "in a city at the limits of the bands", losses, "[10000 10000 15000 15000 20000 20000 25000 25000 30000 30000]")
	losses = nil
	for _, above := range []int64{0, 1, 119, 120, 121, 90000} {
		losses = append(losses, value(impl.ClutterLoss(3, 2000000, above)))
	}
	expect(t, "below and above trees", losses, "[12000 11900 100 0 0 0]")
	losses = nil
	for class := range int64(8) {
		losses = append(losses, value(impl.ClutterLoss(class, 3000000, 0)))
	}
	expect(t, "on the ground of all classes", losses, "[0 1000 500 12000 8000 10000 16000 20000]")
	expect(t, "a half is rounded up", value(impl.ClutterLoss(2, 300000, 9))+value(impl.ClutterLoss(1, 1000000, 19)), 25+38)
}

func TestPromise12LossesByClutterGrow(t *testing.T) {
	frequencies := tabled()
	for class := range int64(8) {
		for i, f := range frequencies {
			for above := range int64(250) {
				loss := value(impl.ClutterLoss(class, f, above))
				if higher := value(impl.ClutterLoss(class, f, above+1)); higher > loss {
					t.Errorf("at %d kHz and in the class %d, %d above the ground loses %d, but one more %d", f, class, above, loss, higher)
				}
				if i > 0 && value(impl.ClutterLoss(class, frequencies[i-1], above)) > loss {
					t.Errorf("in the class %d, %d above the ground, %d kHz lose less than %d kHz", class, above, f, frequencies[i-1])
				}
			}
		}
	}
}

// expectRange checks that a call has no other result than ErrRange.
func expectRange(t *testing.T, what string, result, code int64) {
	t.Helper()
	expect(t, what, []int64{result, code}, []int64{0, impl.ErrRange})
}

// call is a call in which one argument is not as stated.
type call struct {
	what string
	bad  []int64
	with func(bad int64) (int64, int64)
}

func TestPromise12LossesWithErrors(t *testing.T) {
	calls := []call{
		{"ClutterLoss of a bad class", badClasses, func(bad int64) (int64, int64) { return impl.ClutterLoss(bad, 900000, 60) }},
		{"ClutterLoss of a bad class above clutter", badClasses, func(bad int64) (int64, int64) { return impl.ClutterLoss(bad, 900000, 90000) }},
		{"ClutterLoss at a bad frequency", badFrequencies, func(bad int64) (int64, int64) { return impl.ClutterLoss(3, bad, 60) }},
		{"ClutterLoss at a bad frequency in the open", badFrequencies, func(bad int64) (int64, int64) { return impl.ClutterLoss(0, bad, 0) }},
		{"ClutterLoss at a bad height", badHeights, func(bad int64) (int64, int64) { return impl.ClutterLoss(3, 900000, bad) }},
		{"ClutterLoss at a bad height in the open", badHeights, func(bad int64) (int64, int64) { return impl.ClutterLoss(0, 900000, bad) }},
		{"RainSpecific at a bad frequency", badFrequencies, func(bad int64) (int64, int64) { return impl.RainSpecific(bad, 30) }},
		{"RainSpecific at a bad frequency without rain", badFrequencies, func(bad int64) (int64, int64) { return impl.RainSpecific(bad, 0) }},
		{"RainSpecific of bad rain", badRains, func(bad int64) (int64, int64) { return impl.RainSpecific(20000000, bad) }},
		{"RainLoss at a bad frequency", badFrequencies, func(bad int64) (int64, int64) { return impl.RainLoss(bad, 30, 1000) }},
		{"RainLoss of bad rain", badRains, func(bad int64) (int64, int64) { return impl.RainLoss(20000000, bad, 1000) }},
		{"RainLoss over a bad distance", farDistances, func(bad int64) (int64, int64) { return impl.RainLoss(20000000, 30, bad) }},
		{"RainLoss over a bad distance without rain", farDistances, func(bad int64) (int64, int64) { return impl.RainLoss(20000000, 0, bad) }},
		{"GasSpecific at a bad frequency", badFrequencies, impl.GasSpecific},
		{"GasLoss at a bad frequency", badFrequencies, func(bad int64) (int64, int64) { return impl.GasLoss(bad, 1000) }},
		{"GasLoss over a bad distance", farDistances, func(bad int64) (int64, int64) { return impl.GasLoss(20000000, bad) }},
		{"VegetationLoss at a bad frequency", badFrequencies, func(bad int64) (int64, int64) { return impl.VegetationLoss(bad, 10) }},
		{"VegetationLoss at a bad frequency without depth", badFrequencies, func(bad int64) (int64, int64) { return impl.VegetationLoss(bad, 0) }},
		{"VegetationLoss of a bad depth", badDepths, func(bad int64) (int64, int64) { return impl.VegetationLoss(900000, bad) }},
	}
	for _, c := range calls {
		for _, bad := range c.bad {
			result, code := c.with(bad)
			expectRange(t, c.what, result, code)
		}
	}
}

// slowSpecific returns the loss by rain per kilometre by the words of the document.
func slowSpecific(f, rain int64) int64 {
	if rain == 0 {
		return 0
	}
	v := slowRow(rowsOfK, f) + 30000 + nearest(slowRow(rowsOfA, f)*impl.LogDb(rain), 1000)
	if v < 0 {
		return 0
	}
	return impl.PowDb(v)
}

func TestPromise12RainOverAKilometre(t *testing.T) {
	example, code := impl.RainSpecific(20000000, 30)
	expect(t, "the document's example", []int64{example, code}, "[2888 0]")
	for _, f := range tabled() {
		k, a := slowRow(rowsOfK, f), slowRow(rowsOfA, f)
		last := int64(0)
		for rain := range int64(201) {
			loss, code := impl.RainSpecific(f, rain)
			if loss != slowSpecific(f, rain) || code != impl.OK {
				t.Errorf("RainSpecific(%d, %d) = %d, %d, want %d", f, rain, loss, code, slowSpecific(f, rain))
			}
			// Logarithms in mdB make a difference of less than a thousandth, and the least number with a logarithm one of less than 1.
			exact := math.Pow(10, float64(k)/10000+3) * math.Pow(float64(rain), float64(a)/1000)
			if exact >= 1.001 && math.Abs(float64(loss)-exact) > 1+exact/1000 {
				t.Errorf("RainSpecific(%d, %d) = %d, by the formula %f", f, rain, loss, exact)
			}
			if loss < last {
				t.Errorf("RainSpecific(%d, %d) = %d after %d", f, rain, loss, last)
			}
			last = loss
		}
	}
}

func TestPromise12LeastAndGreatestRain(t *testing.T) {
	var losses []int64
	for _, f := range []int64{1, 1000000, 6000000, 10000000, 20000000, 40000000, 80000000, 100000000} {
		for _, rain := range []int64{0, 1, 2, 200} {
			losses = append(losses, value(impl.RainSpecific(f, rain)))
		}
	}
	expect(t, "RainSpecific", losses, "[0 0 0 10 0 0 0 10 0 2 4 1554 0 12 27 8440 0 76 160 21984 0 399 754 52108 0 1123 1874 56585 0 1231 1999 50200]")
	// PowDb begins with 1 at the logarithm 0; those here are -1, -1, 0, 0, 1 and 1.
	losses = []int64{
		value(impl.RainSpecific(1153000, 16)), value(impl.RainSpecific(3382000, 3)), value(impl.RainSpecific(1395000, 13)),
		value(impl.RainSpecific(2630000, 5)), value(impl.RainSpecific(3383000, 3)), value(impl.RainSpecific(5286000, 1)),
	}
	expect(t, "RainSpecific around the logarithm 0", losses, "[0 0 1 1 2 2]")
}

// slowRain returns the loss by rain along a path by the words of the document, with big integers.
func slowRain(f, rain, d int64) int64 {
	e := nearest(35000000, 1000+15*rain)
	twice := big.NewInt(2 * slowSpecific(f, rain) * d)
	divisor := big.NewInt(1000 * (d + e))
	twice.Mul(twice, big.NewInt(e)).Add(twice, divisor)
	return twice.Quo(twice, divisor.Lsh(divisor, 1)).Int64()
}

func TestPromise12RainAlongPaths(t *testing.T) {
	for _, f := range tabled() {
		for _, rain := range []int64{0, 1, 2, 3, 7, 30, 41, 100, 101, 150, 199, 200} {
			last := int64(0)
			specific := value(impl.RainSpecific(f, rain))
			for _, d := range someDistances {
				loss, code := impl.RainLoss(f, rain, d)
				if loss != slowRain(f, rain, d) || code != impl.OK {
					t.Errorf("RainLoss(%d, %d, %d) = %d, %d, want %d", f, rain, d, loss, code, slowRain(f, rain, d))
				}
				if loss < last {
					t.Errorf("RainLoss(%d, %d, %d) = %d after %d", f, rain, d, loss, last)
				}
				if most := nearest(specific*d, 1000); loss > most {
					t.Errorf("RainLoss(%d, %d, %d) = %d, but all of the path loses %d", f, rain, d, loss, most)
				}
				last = loss
			}
		}
	}
}

func TestPromise12RainCoversAPart(t *testing.T) {
	for rain := range int64(201) {
		for _, d := range []int64{20000, 283000} {
			expect(t, "RainLoss", value(impl.RainLoss(80000000, rain, d)), slowRain(80000000, rain, d))
		}
	}
	// Rain of 200 mm/h covers half of 8750 metres, as 35000000 / 4000 is 8750.
	expect(t, "half of the path", value(impl.RainLoss(20000000, 200, 8750)), nearest(21984*8750, 2000))
	losses := []int64{
		value(impl.RainLoss(20000000, 0, 283000)), value(impl.RainLoss(20000000, 1, 1)), value(impl.RainLoss(20000000, 30, 1000)), value(impl.RainLoss(20000000, 30, 10000)),
		value(impl.RainLoss(20000000, 30, 283000)), value(impl.RainLoss(80000000, 200, 283000)), value(impl.RainLoss(1, 200, 283000)),
	}
	expect(t, "RainLoss", losses, "[0 0 2773 20420 64232 480269 85]")
}

func TestPromise12LossesByRainGrowWithRain(t *testing.T) {
	for _, f := range []int64{10000000, 15000000, 20000000, 38000000, 60000000, 80000000, 100000000} {
		for _, d := range []int64{1, 10, 500, 1000, 5000, 20000, 50000} {
			last := int64(0)
			for rain := range int64(201) {
				loss := value(impl.RainLoss(f, rain, d))
				if loss < last {
					t.Errorf("RainLoss(%d, %d, %d) = %d after %d", f, rain, d, loss, last)
				}
				last = loss
			}
		}
	}
	// Heavier rain covers less of a path; by the formula, this can count more than what it loses more.
	rounded := []int64{value(impl.RainLoss(1000000, 39, 2000)), value(impl.RainLoss(1000000, 40, 2000))}
	long := []int64{value(impl.RainLoss(100000000, 172, 283000)), value(impl.RainLoss(100000000, 200, 283000))}
	expect(t, "where less rain loses more", [][]int64{rounded, long}, "[[6 5] [426936 426076]]")
}

func TestPromise12Gases(t *testing.T) {
	for _, f := range tabled() {
		gas := slowRow(rowsOfGas, f)
		specific, code := impl.GasSpecific(f)
		expect(t, "GasSpecific", []int64{specific, code}, []int64{gas, impl.OK})
		last := int64(0)
		for _, d := range someDistances {
			loss, code := impl.GasLoss(f, d)
			expect(t, "GasLoss", []int64{loss, code}, []int64{nearest(gas*d, 1000), impl.OK})
			if loss < last {
				t.Errorf("GasLoss(%d, %d) = %d after %d", f, d, loss, last)
			}
			last = loss
		}
	}
	losses := []int64{value(impl.GasLoss(60000000, 500)), value(impl.GasLoss(60000000, 283000)), value(impl.GasLoss(1, 99)), value(impl.GasLoss(1, 100)), value(impl.GasLoss(1, 299)), value(impl.GasLoss(1, 300))}
	expect(t, "GasLoss", losses, "[7500 4245000 0 1 1 2]")
}

func TestPromise12Vegetation(t *testing.T) {
	for _, f := range tabled() {
		last := int64(0)
		for depth := range int64(1001) {
			x := slowRow(rowsOfLeaves, f) * depth
			loss, code := impl.VegetationLoss(f, depth)
			if want := nearest(30000*x, 30000+x); loss != want || code != impl.OK {
				t.Errorf("VegetationLoss(%d, %d) = %d, %d, want %d", f, depth, loss, code, want)
			}
			if loss < last || loss >= 30000 {
				t.Errorf("VegetationLoss(%d, %d) = %d after %d", f, depth, loss, last)
			}
			last = loss
		}
	}
	losses := []int64{value(impl.VegetationLoss(1000000, 200)), value(impl.VegetationLoss(1, 1)), value(impl.VegetationLoss(1, 1000)), value(impl.VegetationLoss(100000000, 1)), value(impl.VegetationLoss(100000000, 1000)), value(impl.VegetationLoss(100000000, 0))}
	expect(t, "VegetationLoss", losses, "[15000 30 15000 3529 29777 0]")
}

func TestPromise12ValuesOutsideOfTheTables(t *testing.T) {
	for _, f := range []int64{1, 2, 999, 1000, 99999, 100000, 300000, 999999, 1000000, 1000999} {
		for _, rain := range []int64{1, 30, 77, 200} {
			expect(t, "RainSpecific below 1 GHz", value(impl.RainSpecific(f, rain)), value(impl.RainSpecific(1000000, rain)))
		}
		expect(t, "GasSpecific below 1 GHz", value(impl.GasSpecific(f)), 5)
		expect(t, "GasLoss below 1 GHz", value(impl.GasLoss(f, 100000)), 500)
	}
	for _, f := range []int64{1, 999, 1000, 99999, 100000, 100999} {
		for _, depth := range []int64{1, 100, 1000} {
			expect(t, "VegetationLoss below 100 MHz", value(impl.VegetationLoss(f, depth)), nearest(30000*30*depth, 30000+30*depth))
		}
	}
	last := []int64{value(impl.RainSpecific(100000000, 1)), value(impl.GasSpecific(100000000)), value(impl.VegetationLoss(100000000, 1))}
	expect(t, "the last rows", last, []int64{impl.PowDb(30900), 480, nearest(30000*4000, 34000)})
}

func TestPromise12ValuesBetweenRows(t *testing.T) {
	var gas []int64
	for _, f := range []int64{15000000, 9999999, 10000000, 10000999, 21000000, 26000000, 55000000, 59999000, 60001000, 65000000, 85000000, 99999999} {
		gas = append(gas, value(impl.GasSpecific(f)))
	}
	expect(t, "GasSpecific", gas, "[62 14 14 14 150 140 7750 14999 14999 7725 465 480]")
	// Only whole MHz count.
	for _, f := range []int64{5000000, 15000000, 58123000, 100000} {
		below := []int64{value(impl.RainSpecific(f+999, 50)), value(impl.GasSpecific(f + 999)), value(impl.VegetationLoss(f+999, 50))}
		expect(t, "999 kHz more", below, []int64{value(impl.RainSpecific(f, 50)), value(impl.GasSpecific(f)), value(impl.VegetationLoss(f, 50))})
	}
}

func TestPromise12ValuesAtAllFrequencies(t *testing.T) {
	for f := int64(1000); f <= 100000000; f += 1000 {
		gas, leaves := slowRow(rowsOfGas, f), slowRow(rowsOfLeaves, f)
		if got := value(impl.GasSpecific(f)); got != gas {
			t.Errorf("GasSpecific(%d) = %d, want %d", f, got, gas)
		}
		// Over a depth of one metre, the loss is nearest to what the table says.
		if got, want := value(impl.VegetationLoss(f, 1)), nearest(30000*leaves, 30000+leaves); got != want {
			t.Errorf("VegetationLoss(%d, 1) = %d, want %d", f, got, want)
		}
		if got, want := value(impl.RainSpecific(f, 200)), slowSpecific(f, 200); got != want {
			t.Errorf("RainSpecific(%d, 200) = %d, want %d", f, got, want)
		}
	}
}

// slowLosses returns the losses of a path by the words of the document.
func slowLosses(f, d, rain int64, classes, above []int64) impl.Losses {
	l := impl.Losses{Free: slowFree(f, d), Gas: nearest(slowRow(rowsOfGas, f)*d, 1000), Rain: slowRain(f, rain, d)}
	l.Clutter = slowClutter(classes[0], f, above[0]) + slowClutter(classes[1], f, above[1])
	l.Total = l.Free + l.Gas + l.Rain + l.Clutter
	return l
}

func TestPromise12LossesOfPaths(t *testing.T) {
	losses, code := impl.LossesOf(900000, 1000, 0, []int64{0, 3}, []int64{100, 60})
	expect(t, "LossesOf", []any{losses, code}, "[{91532 5 0 4500 96037} 0]")
	losses, code = impl.LossesOf(20000000, 5000, 30, []int64{7, 1}, []int64{0, 10})
	expect(t, "LossesOf in a city and rain", []any{losses, code}, "[{132446 550 11962 30750 175708} 0]")
	for _, f := range someFrequencies {
		for _, d := range someDistances {
			for _, rain := range []int64{0, 1, 30, 200} {
				for i := range int64(8) {
					classes, above := []int64{i, (3 * i) % 8}, []int64{7 * i * i, 50 - i}
					want := slowLosses(f, d, rain, classes, above)
					losses, code := impl.LossesOf(f, d, rain, classes, above)
					expect(t, "LossesOf", []any{losses, code}, []any{want, impl.OK})
					losses, code = impl.LossesOf(f, d, rain, []int64{classes[1], classes[0]}, []int64{above[1], above[0]})
					expect(t, "LossesOf exchanged ends", []any{losses, code}, []any{want, impl.OK})
				}
			}
		}
	}
}

func TestPromise12LossesOfPathsAreThoseOfTheirParts(t *testing.T) {
	for _, f := range someFrequencies {
		for _, d := range someDistances {
			losses, _ := impl.LossesOf(f, d, 30, []int64{6, 4}, []int64{0, 30})
			parts := []int64{value(impl.FreeLoss(f, d)), value(impl.GasLoss(f, d)), value(impl.RainLoss(f, 30, d)), value(impl.ClutterLoss(6, f, 0)) + value(impl.ClutterLoss(4, f, 30))}
			expect(t, "the parts of LossesOf", []int64{losses.Free, losses.Gas, losses.Rain, losses.Clutter, losses.Total}, append(parts, parts[0]+parts[1]+parts[2]+parts[3]))
		}
	}
}

func TestPromise12LossesOfPathsGrow(t *testing.T) {
	ends, above := []int64{5, 3}, []int64{15, 100}
	for _, f := range someFrequencies {
		last := impl.Losses{}
		for _, d := range someDistances {
			losses, _ := impl.LossesOf(f, d, 30, ends, above)
			if losses.Free < last.Free || losses.Gas < last.Gas || losses.Rain < last.Rain || losses.Total < last.Total {
				t.Errorf("at %d kHz over %d m, the losses are %v after %v", f, d, losses, last)
			}
			last = losses
		}
	}
	last := impl.Losses{}
	for rain := range int64(201) {
		losses, _ := impl.LossesOf(20000000, 10000, rain, ends, above)
		if losses.Rain <= last.Rain && rain > 0 || losses.Total <= last.Total {
			t.Errorf("in rain of %d mm/h, the losses are %v after %v", rain, losses, last)
		}
		last = losses
	}
}

// pathCall is arguments of LossesOf.
type pathCall struct {
	f, d, rain     int64
	classes, above []int64
}

func TestPromise12LossesOfPathsWithErrors(t *testing.T) {
	expectCode := func(c pathCall, want int64) {
		t.Helper()
		losses, code := impl.LossesOf(c.f, c.d, c.rain, c.classes, c.above)
		expect(t, "LossesOf with an error", []any{losses, code}, []any{impl.Losses{}, want})
	}
	two := []int64{3, 3}
	for _, list := range [][]int64{nil, {}, {0}, {-1}, {0, 0, 0}, {0, 0, 99}, zeros(64), zeros(100000)} {
		for _, f := range []int64{900000, 0, math.MaxInt64} {
			expectCode(pathCall{f, 1000, 0, list, two}, impl.ErrState)
			expectCode(pathCall{f, 1000, 0, two, list}, impl.ErrState)
			expectCode(pathCall{f, -1, -1, list, []int64{-1, -1}}, impl.ErrState)
			expectCode(pathCall{f, 0, 201, []int64{8, 8}, list}, impl.ErrState)
			expectCode(pathCall{f, 1000, 0, list, list}, impl.ErrState)
		}
	}
	for _, bad := range badFrequencies {
		expectCode(pathCall{bad, 1000, 0, two, two}, impl.ErrRange)
	}
	for _, bad := range farDistances {
		expectCode(pathCall{900000, bad, 0, two, two}, impl.ErrRange)
	}
	for _, bad := range badRains {
		expectCode(pathCall{900000, 1000, bad, two, two}, impl.ErrRange)
	}
	for _, bad := range badClasses {
		expectCode(pathCall{900000, 1000, 0, []int64{bad, 0}, two}, impl.ErrRange)
		expectCode(pathCall{900000, 1000, 0, []int64{0, bad}, two}, impl.ErrRange)
	}
	for _, bad := range badHeights {
		expectCode(pathCall{900000, 1000, 0, two, []int64{bad, 0}}, impl.ErrRange)
		expectCode(pathCall{900000, 1000, 0, two, []int64{0, bad}}, impl.ErrRange)
	}
}

// LANGUAGE.md, rule 3b: the table built once stays beside the functions by which losses are computed.
func TestPromise12LossesNeedNoStoredTable(t *testing.T) {
	used := namesUsed(t, "l01_basics", "l02_decibels", "l09_freespace", "l11_losses")
	for _, name := range []string{"classesByName", "classesOnce"} {
		for _, from := range []string{"ClutterName", "ClutterHeight", "ClutterLoss", "RainSpecific", "RainLoss", "GasSpecific", "GasLoss", "VegetationLoss", "LossesOf"} {
			if len(used[from]) == 0 || reaches(used, from, name, map[string]bool{}) {
				t.Errorf("%s is computed through %s", from, name)
			}
		}
		if !reaches(used, "ClassNamed", name, map[string]bool{}) {
			t.Errorf("ClassNamed does not read %s", name)
		}
	}
}
