package tests

import (
	"math"
	"math/big"
	"math/rand"
	"slices"
	"testing"

	"loop.example/g00925/impl"
)

// Numbers that are not as stated.
var (
	badClimates = []int64{24, 401, 0, -1, math.MinInt64, math.MaxInt64}
	badMargins  = []int64{-1, 100001, math.MinInt64, math.MaxInt64}
	badOutages  = []int64{-1, 1000001, math.MinInt64, math.MaxInt64}
)

// Numbers as stated, the least and the greatest ones among them.
var (
	someClimates = []int64{25, 26, 99, 100, 399, 400}
	someMargins  = []int64{0, 1, 2, 5, 47, 700, 9999, 30000, 54321, 99999, 100000}
	someOutages  = []int64{0, 1, 2, 9, 10, 11, 231, 999, 1000, 500000, 999999, 1000000}
)

// logOfOutage returns the x of OutageOf by the words of the document.
func logOfOutage(f, d, climate, margin int64) int64 {
	return impl.LogDb(climate) + impl.LogDb(max(1, f/1000)) + 3*impl.LogDb(d) - 142218 - margin
}

// slowOutage returns the outage by fading by the words of the document.
func slowOutage(f, d, climate, margin int64) int64 {
	x := logOfOutage(f, d, climate, margin)
	if x < 0 {
		return 0
	}
	return min(1000000, impl.PowDb(x))
}

func TestPromise14OutagesByFading(t *testing.T) {
	outage, code := impl.OutageOf(6000000, 40000, 100, 30000)
	expect(t, "the document's example", []int64{outage, code}, "[231 0]")
	for _, f := range someFrequencies {
		for _, d := range someDistances {
			for _, climate := range someClimates {
				for _, margin := range someMargins {
					outage, code := impl.OutageOf(f, d, climate, margin)
					expect(t, "OutageOf", []int64{outage, code}, []int64{slowOutage(f, d, climate, margin), impl.OK})
					exact := float64(climate) * max(1, math.Floor(float64(f)/1000)) * math.Pow(float64(d), 3) * math.Pow(10, float64(-142218-margin)/10000)
					// Five logarithms are rounded down, and the least number with a logarithm is an integer.
					if exact > 2 && exact < 990000 && math.Abs(float64(outage)-exact) > 1+exact/800 {
						t.Errorf("OutageOf(%d, %d, %d, %d) = %d, by the formula %f", f, d, climate, margin, outage, exact)
					}
				}
			}
		}
	}
}

func TestPromise14LimitsOfOutagesByFading(t *testing.T) {
	without := logOfOutage(6000000, 40000, 100, 0)
	expect(t, "the logarithm of the document's example", without, 53623)
	for margin, want := range map[int64]int64{without - 1: 2, without: 1, without + 1: 0, 100000: 0, 0: impl.PowDb(without)} {
		expect(t, "OutageOf around the logarithm 0", value(impl.OutageOf(6000000, 40000, 100, margin)), want)
	}
	far := logOfOutage(100000000, 283000, 400, 0)
	expect(t, "the greatest logarithm", far, 97353)
	for margin, want := range map[int64]int64{0: 1000000, far - 60001: 1000000, far - 60000: 1000000, far - 59999: impl.PowDb(59999), far: 1, far + 1: 0} {
		expect(t, "OutageOf around Whole", value(impl.OutageOf(100000000, 283000, 400, margin)), want)
	}
	var outages []int64
	for _, f := range []int64{1, 999, 1000, 1999, 2000, 2999, 3000} {
		outages = append(outages, value(impl.OutageOf(f, 283000, 400, 0)))
	}
	expect(t, "only whole MHz count, and at least one", outages, "[54363 54363 54363 54363 108718 108718 163080]")
}

func TestPromise14OutagesByFadingShrinkWithTheMargin(t *testing.T) {
	for _, f := range []int64{1, 6000000, 38000000, 100000000} {
		for _, d := range []int64{1, 1000, 40000, 283000} {
			for _, climate := range []int64{25, 100, 400} {
				last := int64(1000000)
				for margin := int64(0); margin <= 100000; margin += 111 {
					outage := value(impl.OutageOf(f, d, climate, margin))
					if outage > last || outage < 0 {
						t.Errorf("OutageOf(%d, %d, %d, %d) = %d after %d", f, d, climate, margin, outage, last)
					}
					last = outage
				}
			}
		}
	}
}

func TestPromise14OutagesByFadingGrowWithTheRest(t *testing.T) {
	for _, margin := range someMargins {
		last := int64(0)
		for _, f := range someFrequencies {
			outage := value(impl.OutageOf(f, 40000, 100, margin))
			expect(t, "growth with the frequency", outage >= last, true)
			last = outage
		}
		last = 0
		for _, d := range someDistances {
			outage := value(impl.OutageOf(6000000, d, 100, margin))
			expect(t, "growth with the distance", outage >= last, true)
			last = outage
		}
		last = 0
		for _, climate := range someClimates {
			outage := value(impl.OutageOf(6000000, 40000, climate, margin))
			expect(t, "growth with the climate", outage >= last, true)
			last = outage
		}
	}
}

// expectMargin checks MarginFor, and that no lesser margin is enough.
func expectMargin(t *testing.T, f, d, climate, outage int64) {
	t.Helper()
	margin, code := impl.MarginFor(f, d, climate, outage)
	if code != impl.OK || margin < 0 || margin > 100000 || value(impl.OutageOf(f, d, climate, margin)) > outage {
		t.Errorf("MarginFor(%d, %d, %d, %d) = %d, %d", f, d, climate, outage, margin, code)
	}
	for _, less := range []int64{1, 2, 50, 1000} {
		if margin >= less && value(impl.OutageOf(f, d, climate, margin-less)) <= outage {
			t.Errorf("MarginFor(%d, %d, %d, %d) = %d, but %d less are enough", f, d, climate, outage, margin, less)
		}
	}
}

func TestPromise14MarginsAreTheLeastOnes(t *testing.T) {
	for _, f := range someFrequencies {
		for _, d := range someDistances {
			for _, climate := range []int64{25, 100, 400} {
				for _, outage := range someOutages {
					expectMargin(t, f, d, climate, outage)
				}
			}
		}
	}
	var margins []int64
	for _, outage := range []int64{0, 1, 2, 230, 231, 1000, 999999, 1000000} {
		margins = append(margins, value(impl.MarginFor(100000000, 283000, 400, outage)))
	}
	expect(t, "the margins of the worst path", margins, "[97354 97353 94343 73736 73717 67353 37354 0]")
	expect(t, "the margin of the best path", value(impl.MarginFor(1, 1, 25, 0)), 0)
	expect(t, "the margin of the document's example", value(impl.MarginFor(6000000, 40000, 100, 231)) <= 30000, true)
}

// rowsOfRain is the document's table of rain rates and outages.
var rowsOfRain = [][2]int64{{0, 50000}, {8, 10000}, {30, 1000}, {60, 100}, {100, 10}, {150, 1}, {200, 0}}

// slowExceedance returns the part of the time with rain by the words of the document.
func slowExceedance(rain int64) int64 {
	for i, row := range rowsOfRain[1:] {
		if before := rowsOfRain[i]; rain <= row[0] {
			return before[1] + nearest((row[1]-before[1])*(rain-before[0]), row[0]-before[0])
		}
	}
	return -1
}

func TestPromise14RainIsExceeded(t *testing.T) {
	last := int64(50000)
	for rain := range int64(201) {
		outage, code := impl.ExceedanceOf(rain)
		expect(t, "ExceedanceOf", []int64{outage, code}, []int64{slowExceedance(rain), impl.OK})
		if outage > last {
			t.Errorf("ExceedanceOf(%d) = %d after %d", rain, outage, last)
		}
		last = outage
	}
	for _, row := range rowsOfRain {
		expect(t, "ExceedanceOf a row", value(impl.ExceedanceOf(row[0])), row[1])
	}
	var outages []int64
	for _, rain := range []int64{1, 7, 9, 29, 45, 99, 125, 149, 151, 174, 175, 199} {
		outages = append(outages, value(impl.ExceedanceOf(rain)))
	}
	expect(t, "ExceedanceOf between the rows", outages, "[45000 15000 9591 1409 550 12 5 1 1 1 0 0]")
}

// slowRainOutage returns the outage by rain by the words of the document.
func slowRainOutage(f, d, margin int64) int64 {
	for rain := range int64(201) {
		if value(impl.RainLoss(f, rain, d)) > margin {
			return slowExceedance(rain)
		}
	}
	return 0
}

func TestPromise14OutagesByRain(t *testing.T) {
	for _, f := range []int64{1, 1000000, 6000000, 20000000, 38000000, 100000000} {
		for _, d := range someDistances {
			last := int64(50000)
			for _, margin := range someMargins {
				outage, code := impl.RainOutage(f, d, margin)
				expect(t, "RainOutage", []int64{outage, code}, []int64{slowRainOutage(f, d, margin), impl.OK})
				if outage > last {
					t.Errorf("RainOutage(%d, %d, %d) = %d after %d", f, d, margin, outage, last)
				}
				last = outage
			}
		}
	}
}

func TestPromise14LimitsOfOutagesByRain(t *testing.T) {
	// At 20 GHz over 10 km, rain of 30 mm/h loses 20420; the loss grows there.
	loss := value(impl.RainLoss(20000000, 30, 10000))
	outages := []int64{value(impl.RainOutage(20000000, 10000, loss-1)), value(impl.RainOutage(20000000, 10000, loss))}
	expect(t, "RainOutage around the loss of 30 mm/h", outages, []int64{1000, slowExceedance(31)})
	most := value(impl.RainLoss(20000000, 200, 10000))
	outages = []int64{value(impl.RainOutage(20000000, 10000, most)), value(impl.RainOutage(20000000, 10000, most-1)), value(impl.RainOutage(1000000, 1000, 100000)), value(impl.RainOutage(100000000, 283000, 0))}
	expect(t, "RainOutage where all rain is too weak, only the heaviest one is not, and the weakest one is not", outages, "[0 0 0 45000]")
}

// Heavier rain covers less of a path, so that it can lose less there; what counts is the least rate with which the loss is greater than the margin.
func TestPromise14OutagesByRainThatLosesLessThanWeakerRain(t *testing.T) {
	losses := []int64{value(impl.RainLoss(1000000, 38, 2000)), value(impl.RainLoss(1000000, 39, 2000)), value(impl.RainLoss(1000000, 40, 2000)), value(impl.RainLoss(1000000, 59, 2000))}
	expect(t, "RainLoss", losses, "[4 6 5 7]")
	var outages []int64
	for _, c := range [][3]int64{{1000000, 2000, 4}, {1000000, 2000, 5}, {1000000, 2000, 13}, {1000000, 5000, 15}, {1000000, 283000, 47}, {1000000, 283000, 56}, {1000000, 283000, 62}} {
		outages = append(outages, value(impl.RainOutage(c[0], c[1], c[2])))
	}
	expect(t, "RainOutage", outages, "[730 730 2 130 5500 730 130]")
}

// bigSeries returns SeriesOutage by the words of the document, with big integers.
func bigSeries(list []int64) int64 {
	w, whole := big.NewInt(1000000), big.NewInt(1000000)
	for _, p := range list {
		w.Mul(w, big.NewInt(1000000-p)).Quo(w, whole)
	}
	return 1000000 - w.Int64()
}

// bigParallel returns ParallelOutage by the words of the document, with big integers.
func bigParallel(list []int64) int64 {
	w, whole, rest := big.NewInt(1000000), big.NewInt(1000000), new(big.Int)
	for _, p := range list {
		w.Mul(w, big.NewInt(p)).QuoRem(w, whole, rest)
		if rest.Sign() > 0 {
			w.Add(w, big.NewInt(1))
		}
	}
	return w.Int64()
}

// outageLists returns lists of outages of all lengths, the same ones at every call.
func outageLists() [][]int64 {
	source := rand.New(rand.NewSource(14))
	lists := [][]int64{nil, {}, {0}, {1}, {1000000}, {999999}, {0, 0}, {1000000, 1000000}, {0, 1000000}, {1000, 1000}, {1, 1}, {999999, 999999}, zeros(64), slices.Repeat([]int64{1000000}, 64), slices.Repeat([]int64{1}, 64), slices.Repeat([]int64{999999}, 64)}
	for range 500 {
		list := zeros(1 + source.Intn(64))
		limit := []int64{3, 1000, 1000001}[source.Intn(3)]
		for i := range list {
			list[i] = source.Int63n(limit)
			if source.Intn(2) == 0 && limit > 1000000 {
				list[i] = 1000000 - list[i]/1000
			}
		}
		lists = append(lists, list[:1+source.Intn(len(list))])
	}
	return lists
}

func TestPromise14ChainsAndAlternatives(t *testing.T) {
	for _, list := range outageLists() {
		series, seriesCode := impl.SeriesOutage(list)
		parallel, parallelCode := impl.ParallelOutage(list)
		expect(t, "SeriesOutage and ParallelOutage", []int64{series, seriesCode, parallel, parallelCode}, []int64{bigSeries(list), impl.OK, bigParallel(list), impl.OK})
		sum, most, fewest := int64(0), int64(0), int64(1000000)
		for _, p := range list {
			sum, most, fewest = sum+p, max(most, p), min(fewest, p)
		}
		if series < most || series > min(sum, 1000000) {
			t.Errorf("SeriesOutage(%v) = %d", list, series)
		}
		if parallel < 0 || parallel > fewest || parallel == 0 != (fewest == 0) {
			t.Errorf("ParallelOutage(%v) = %d", list, parallel)
		}
		for i := range list {
			if value(impl.SeriesOutage(list[:i])) > series || value(impl.ParallelOutage(list[:i])) < parallel {
				t.Errorf("the first %d of %v", i, list)
			}
		}
	}
}

func TestPromise14ExamplesOfChains(t *testing.T) {
	series, seriesCode := impl.SeriesOutage([]int64{1000, 1000})
	parallel, parallelCode := impl.ParallelOutage([]int64{1000, 1000})
	expect(t, "the document's example", []int64{series, seriesCode, parallel, parallelCode}, "[1999 0 1 0]")
	for _, c := range []struct {
		list             []int64
		series, parallel int64
	}{
		{nil, 0, 1000000}, {[]int64{7}, 7, 7}, {[]int64{1, 1}, 2, 1}, {[]int64{0, 500000}, 500000, 0}, {[]int64{1000000, 3}, 1000000, 3},
		{[]int64{500000, 500000, 500000}, 875000, 125000}, {[]int64{500000, 1, 1}, 500002, 1}, {[]int64{500001, 333333}, 666668, 166667}, {[]int64{1, 500000}, 500001, 1},
	} {
		series, parallel := value(impl.SeriesOutage(c.list)), value(impl.ParallelOutage(c.list))
		expect(t, "SeriesOutage and ParallelOutage", []any{c.list, series, parallel}, []any{c.list, c.series, c.parallel})
	}
}

func TestPromise14ChainsWithErrors(t *testing.T) {
	for name, of := range map[string]func([]int64) (int64, int64){"SeriesOutage": impl.SeriesOutage, "ParallelOutage": impl.ParallelOutage} {
		for _, bad := range badOutages {
			for _, list := range [][]int64{{bad}, {0, bad}, {bad, 1000000}, append(zeros(63), bad)} {
				outage, code := of(list)
				expectRange(t, name+" of a bad outage", outage, code)
			}
			outage, code := of(append(zeros(64), bad))
			expect(t, name+" of too many outages with a bad one", []int64{outage, code}, []int64{0, impl.ErrFull})
		}
		for _, list := range [][]int64{zeros(65), zeros(100000), slices.Repeat([]int64{-1}, 65)} {
			outage, code := of(list)
			expect(t, name+" of too many outages", []int64{outage, code}, []int64{0, impl.ErrFull})
		}
		_, code := of(zeros(64))
		expect(t, name+" of 64 outages", code, impl.OK)
	}
}

func TestPromise14OutagesOfHops(t *testing.T) {
	for _, f := range []int64{1, 1000000, 6000000, 38000000, 100000000} {
		for _, d := range []int64{1, 1000, 40000, 283000} {
			for _, climate := range []int64{25, 400} {
				last := int64(1000000)
				for _, margin := range someMargins {
					fading, rain := slowOutage(f, d, climate, margin), slowRainOutage(f, d, margin)
					outage, code := impl.HopOutage(f, d, climate, margin)
					expect(t, "HopOutage", []int64{outage, code}, []int64{bigSeries([]int64{fading, rain}), impl.OK})
					if outage > last || outage < max(fading, rain) || outage > fading+rain {
						t.Errorf("HopOutage(%d, %d, %d, %d) = %d after %d, of %d and %d", f, d, climate, margin, outage, last, fading, rain)
					}
					last = outage
				}
			}
		}
	}
	hops := []int64{value(impl.HopOutage(6000000, 40000, 100, 100000)), value(impl.HopOutage(20000000, 10000, 100, 20000)), value(impl.HopOutage(38000000, 40000, 400, 30000))}
	expect(t, "HopOutage", hops, "[0 1121 25718]")
}

func TestPromise14OutagesWithErrors(t *testing.T) {
	calls := []call{
		{"OutageOf at a bad frequency", badFrequencies, func(bad int64) (int64, int64) { return impl.OutageOf(bad, 40000, 100, 30000) }},
		{"OutageOf over a bad distance", farDistances, func(bad int64) (int64, int64) { return impl.OutageOf(6000000, bad, 100, 30000) }},
		{"OutageOf in a bad climate", badClimates, func(bad int64) (int64, int64) { return impl.OutageOf(6000000, 40000, bad, 30000) }},
		{"OutageOf with a bad margin", badMargins, func(bad int64) (int64, int64) { return impl.OutageOf(6000000, 40000, 100, bad) }},
		{"MarginFor at a bad frequency", badFrequencies, func(bad int64) (int64, int64) { return impl.MarginFor(bad, 40000, 100, 231) }},
		{"MarginFor over a bad distance", farDistances, func(bad int64) (int64, int64) { return impl.MarginFor(6000000, bad, 100, 231) }},
		{"MarginFor in a bad climate", badClimates, func(bad int64) (int64, int64) { return impl.MarginFor(6000000, 40000, bad, 231) }},
		{"MarginFor of a bad outage", badOutages, func(bad int64) (int64, int64) { return impl.MarginFor(6000000, 40000, 100, bad) }},
		{"ExceedanceOf bad rain", badRains, impl.ExceedanceOf},
		{"RainOutage at a bad frequency", badFrequencies, func(bad int64) (int64, int64) { return impl.RainOutage(bad, 40000, 30000) }},
		{"RainOutage over a bad distance", farDistances, func(bad int64) (int64, int64) { return impl.RainOutage(6000000, bad, 30000) }},
		{"RainOutage with a bad margin", badMargins, func(bad int64) (int64, int64) { return impl.RainOutage(6000000, 40000, bad) }},
		{"HopOutage at a bad frequency", badFrequencies, func(bad int64) (int64, int64) { return impl.HopOutage(bad, 40000, 100, 30000) }},
		{"HopOutage over a bad distance", farDistances, func(bad int64) (int64, int64) { return impl.HopOutage(6000000, bad, 100, 30000) }},
		{"HopOutage in a bad climate", badClimates, func(bad int64) (int64, int64) { return impl.HopOutage(6000000, 40000, bad, 30000) }},
		{"HopOutage with a bad margin", badMargins, func(bad int64) (int64, int64) { return impl.HopOutage(6000000, 40000, 100, bad) }},
		{"DownTime of a bad outage", badOutages, impl.DownTime},
		{"NinesOf a bad outage", badOutages, impl.NinesOf},
	}
	for _, c := range calls {
		for _, bad := range c.bad {
			result, code := c.with(bad)
			expectRange(t, c.what, result, code)
		}
	}
}

func TestPromise14TimesOfOutage(t *testing.T) {
	for outage := int64(0); outage <= 1000000; outage += 13 {
		seconds, code := impl.DownTime(outage)
		if want := nearest(31536000*outage, 1000000); seconds != want || code != impl.OK {
			t.Errorf("DownTime(%d) = %d, %d, want %d", outage, seconds, code, want)
		}
	}
	var times []int64
	for _, outage := range []int64{0, 1, 2, 10, 100, 31709, 31710, 500000, 999999, 1000000} {
		times = append(times, value(impl.DownTime(outage)))
	}
	expect(t, "DownTime", times, "[0 32 63 315 3154 999975 1000007 15768000 31535968 31536000]")
}

func TestPromise14Nines(t *testing.T) {
	expect(t, "the document's example", []int64{value(impl.NinesOf(10)), value(impl.DownTime(10))}, "[5 315]")
	for outage, want := range map[int64]int64{0: 6, 1: 6, 2: 5, 9: 5, 10: 5, 11: 4, 100: 4, 101: 3, 1000: 3, 1001: 2, 10000: 2, 10001: 1, 100000: 1, 100001: 0, 999999: 0, 1000000: 0} {
		nines, code := impl.NinesOf(outage)
		expect(t, "NinesOf", []int64{outage, nines, code}, []int64{outage, want, impl.OK})
	}
}
