package tests

import (
	"math"
	"math/rand"
	"slices"
	"strings"
	"testing"

	"loop.example/g00925/impl"
)

// twoModes is the radio of the document's example.
func twoModes() impl.Radio {
	return impl.Radio{Name: "r1", Power: 30000, Feeder: 2000, Noise: 4000, Width: 1000, Modes: []impl.Mode{{Need: 3000, Rate: 1000}, {Need: 12000, Rate: 4000}}}
}

// tuned returns a radio with a number of modes, the same one for equal arguments.
func tuned(name string, modes int64) impl.Radio {
	source := rand.New(rand.NewSource(modes))
	r := impl.Radio{Name: name, Power: source.Int63n(200001) - 100000, Feeder: source.Int63n(30001), Noise: source.Int63n(30001), Width: 1 + source.Int63n(100000)}
	need, rate := source.Int63n(60000)-50000, 1+source.Int63n(1000)
	for range modes {
		r.Modes = append(r.Modes, impl.Mode{Need: need, Rate: rate})
		need, rate = need+1+source.Int63n(5000), rate+1+source.Int63n(100000)
	}
	return r
}

// radios returns valid radios with all numbers of modes, those at the limits among them.
func radios() []impl.Radio {
	list := []impl.Radio{
		twoModes(),
		{Name: "low", Power: -100000, Feeder: 0, Noise: 0, Width: 1, Modes: []impl.Mode{{Need: -50000, Rate: 1}}},
		{Name: "high123456", Power: 100000, Feeder: 30000, Noise: 30000, Width: 100000, Modes: []impl.Mode{{Need: 99999, Rate: 999999}, {Need: 100000, Rate: 1000000}}},
		{Name: "wide", Power: 0, Feeder: 30000, Noise: 30000, Width: 100000, Modes: []impl.Mode{{Need: -50000, Rate: 1}, {Need: 100000, Rate: 1000000}}},
	}
	for modes := int64(1); modes <= 8; modes++ {
		list = append(list, tuned("t"+impl.Decimal(modes), modes))
	}
	return list
}

// badRadios are not valid, each for one reason.
func badRadios() []impl.Radio {
	bad := []impl.Radio{{}, tuned("nine", 9), tuned("none", 0)}
	change := func(spoil func(r *impl.Radio)) {
		r := tuned("bad", 3)
		spoil(&r)
		bad = append(bad, r)
	}
	for _, name := range []string{"", "R", "1r", "r 1", "abcdefghijk"} {
		change(func(r *impl.Radio) { r.Name = name })
	}
	for _, v := range []int64{math.MinInt64, -100001, 100001, math.MaxInt64} {
		change(func(r *impl.Radio) { r.Power = v })
		change(func(r *impl.Radio) { r.Feeder = v })
		change(func(r *impl.Radio) { r.Noise = v })
		change(func(r *impl.Radio) { r.Width = v })
	}
	for _, v := range []int64{-1, 30001} {
		change(func(r *impl.Radio) { r.Feeder = v })
		change(func(r *impl.Radio) { r.Noise = v })
	}
	for _, v := range []int64{-1, 0} {
		change(func(r *impl.Radio) { r.Width = v })
		change(func(r *impl.Radio) { r.Modes[0].Rate = v })
	}
	for _, v := range []int64{math.MinInt64, -50001} {
		change(func(r *impl.Radio) { r.Modes[0].Need = v })
	}
	for _, v := range []int64{math.MaxInt64, 1000001, 100001} {
		change(func(r *impl.Radio) { r.Modes[2].Need = v })
	}
	for _, v := range []int64{math.MaxInt64, 1000001} {
		change(func(r *impl.Radio) { r.Modes[2].Rate = v })
	}
	for i := range 2 {
		change(func(r *impl.Radio) { r.Modes[i].Need = r.Modes[i+1].Need })
		change(func(r *impl.Radio) { r.Modes[i].Rate = r.Modes[i+1].Rate })
		change(func(r *impl.Radio) { r.Modes[i].Need = r.Modes[i+1].Need + 1 })
		change(func(r *impl.Radio) { r.Modes[i].Rate = r.Modes[i+1].Rate + 1 })
	}
	change(func(r *impl.Radio) { slices.Reverse(r.Modes) })
	return bad
}

var (
	badGains  = []int64{-60001, 60001, math.MinInt64, math.MaxInt64}
	badLosses = []int64{-1, 300001, math.MinInt64, math.MaxInt64}
	badLevels = []int64{-300001, 300001, math.MinInt64, math.MaxInt64}
)

func TestPromise8ValidRadios(t *testing.T) {
	for _, r := range radios() {
		expect(t, "ValidRadio", impl.ValidRadio(r), true)
	}
	for i, r := range badRadios() {
		if impl.ValidRadio(r) {
			t.Errorf("the bad radio %d is valid: %v", i, r)
		}
	}
}

func TestPromise8SameRadios(t *testing.T) {
	base := tuned("bad", 3)
	list := append(append(radios(), badRadios()...), base)
	for i, a := range list {
		copied := a
		copied.Modes = slices.Clone(a.Modes)
		expect(t, "SameRadio of a copy", impl.SameRadio(a, copied), true)
		for k, b := range list {
			if impl.SameRadio(a, b) != (i == k) {
				t.Errorf("SameRadio of the radios %d and %d", i, k)
			}
		}
	}
	expect(t, "SameRadio of nil and empty lists", impl.SameRadio(impl.Radio{}, impl.Radio{Modes: []impl.Mode{}}), true)
}

func TestPromise8NoiseFloors(t *testing.T) {
	for _, r := range radios() {
		floor, code := impl.NoiseFloor(r)
		expect(t, "NoiseFloor", []int64{floor, code}, []int64{impl.LogDb(r.Width) - 144000 + r.Noise, impl.OK})
	}
	expect(t, "the noise floors of the example and at the limits", []int64{value(impl.NoiseFloor(radios()[0])), value(impl.NoiseFloor(radios()[1])), value(impl.NoiseFloor(radios()[2]))}, "[-110000 -144000 -64000]")
	for _, bad := range badRadios() {
		floor, code := impl.NoiseFloor(bad)
		expect(t, "NoiseFloor of a bad radio", []int64{floor, code}, []int64{0, impl.ErrInvalid})
	}
}

func TestPromise8RadiatedPowers(t *testing.T) {
	for _, r := range radios() {
		for _, gain := range []int64{-60000, -1, 0, 15000, 60000} {
			eirp, code := impl.EirpOf(r, gain)
			expect(t, "EirpOf", []int64{eirp, code}, []int64{r.Power - r.Feeder + gain, impl.OK})
		}
		for _, gain := range badGains {
			eirp, code := impl.EirpOf(r, gain)
			expect(t, "EirpOf with a bad gain", []int64{eirp, code}, []int64{0, impl.ErrRange})
		}
	}
	for _, bad := range badRadios() {
		for _, gain := range []int64{0, 60001} {
			eirp, code := impl.EirpOf(bad, gain)
			expect(t, "EirpOf a bad radio", []int64{eirp, code}, []int64{0, impl.ErrInvalid})
		}
	}
}

func TestPromise8RatiosToNoise(t *testing.T) {
	for _, r := range radios() {
		for _, level := range []int64{-300000, -299999, -110000, 0, 299999, 300000} {
			snr, code := impl.SnrOf(r, level)
			expect(t, "SnrOf", []int64{snr, code}, []int64{level - r.Feeder - value(impl.NoiseFloor(r)), impl.OK})
		}
		for _, level := range badLevels {
			snr, code := impl.SnrOf(r, level)
			expect(t, "SnrOf a bad level", []int64{snr, code}, []int64{0, impl.ErrRange})
		}
	}
	expect(t, "SnrOf the example", value(impl.SnrOf(twoModes(), -90000)), 18000)
	for _, bad := range badRadios() {
		for _, level := range []int64{0, 300001} {
			snr, code := impl.SnrOf(bad, level)
			expect(t, "SnrOf a bad radio", []int64{snr, code}, []int64{0, impl.ErrInvalid})
		}
	}
}

// slowSinr computes the ratio by the words of the document.
func slowSinr(r impl.Radio, level int64, others []int64) int64 {
	sources := []int64{value(impl.NoiseFloor(r))}
	for _, other := range others {
		sources = append(sources, other-r.Feeder)
	}
	return level - r.Feeder - value(impl.SumDb(sources))
}

// interferers returns lists of levels, the longest and the weakest ones among them, that are levels also behind the feeder.
func interferers(r impl.Radio) [][]int64 {
	source := rand.New(rand.NewSource(8))
	lists := [][]int64{nil, {-108000}, {300000}, {r.Feeder - 300000}, {0, 300000, -100000}, slices.Repeat([]int64{-110000}, 63)}
	for _, count := range []int{2, 5, 20, 63} {
		list := make([]int64, count)
		for i := range list {
			list[i] = -70000 - source.Int63n(60000)
		}
		lists = append(lists, list)
	}
	return lists
}

func TestPromise8InterferenceNeverHelps(t *testing.T) {
	for _, r := range radios() {
		for _, level := range []int64{r.Feeder - 300000, -120000, -90000, 0, 300000} {
			for _, others := range interferers(r) {
				sinr, code := impl.SinrOf(r, level, others)
				expect(t, "SinrOf", []int64{sinr, code}, []int64{slowSinr(r, level, others), impl.OK})
				if snr := value(impl.SnrOf(r, level)); sinr > snr || len(others) == 0 && sinr != snr {
					t.Errorf("the ratio of the level %d to the noise of %v is %d, and %d with %d others", level, r, snr, sinr, len(others))
				}
				back, _ := impl.SinrOf(r, level, reversed(others))
				expect(t, "SinrOf in the other order", back, sinr)
				for i := range others {
					if fewer := value(impl.SinrOf(r, level, others[:i])); fewer < sinr {
						t.Errorf("SinrOf is %d with %d others, and %d with %d", fewer, i, sinr, len(others))
					}
					stronger := slices.Clone(others)
					stronger[i] = min(300000, stronger[i]+3000)
					if worse := value(impl.SinrOf(r, level, stronger)); worse > sinr {
						t.Errorf("SinrOf grows from %d to %d when one of others grows", sinr, worse)
					}
				}
			}
		}
	}
	r := twoModes()
	expect(t, "SinrOf the example", []int64{value(impl.SinrOf(r, -90000, nil)), value(impl.SinrOf(r, -90000, []int64{-108000}))}, "[18000 14990]")
}

func TestPromise8InterferenceWithErrors(t *testing.T) {
	r := twoModes()
	check := func(r impl.Radio, level int64, others []int64, want int64) {
		t.Helper()
		sinr, code := impl.SinrOf(r, level, others)
		expect(t, "SinrOf with errors", []int64{sinr, code}, []int64{0, want})
	}
	edge := r.Feeder - 300000 // less the feeder the least level
	for _, level := range append(badLevels, edge-1, -300000) {
		check(r, level, nil, impl.ErrRange)
		check(r, level, zeros(64), impl.ErrRange)
		check(r, -90000, []int64{level}, impl.ErrRange)
		check(r, -90000, append(zeros(70), level), impl.ErrRange)
		check(r, -90000, append([]int64{level}, zeros(63)...), impl.ErrRange)
	}
	check(r, 0, zeros(64), impl.ErrFull)
	check(r, edge, zeros(100000), impl.ErrFull)
	for _, others := range [][]int64{nil, {edge}, zeros(63)} {
		_, code := impl.SinrOf(r, edge, others)
		expect(t, "SinrOf the least level", code, impl.OK)
	}
	for _, bad := range badRadios() {
		check(bad, -90000, nil, impl.ErrInvalid)
		check(bad, 300001, []int64{300001}, impl.ErrInvalid)
		check(bad, 0, zeros(64), impl.ErrInvalid)
	}
}

// slowBest finds the last mode by the words of the document, and -1 if there is none.
func slowBest(r impl.Radio, snr int64) int64 {
	best := int64(-1)
	for i, m := range r.Modes {
		if m.Need <= snr {
			best = int64(i)
		}
	}
	return best
}

func TestPromise8BestModes(t *testing.T) {
	for _, r := range radios() {
		ratios := slices.Clone(extremes)
		for _, m := range r.Modes {
			ratios = append(ratios, m.Need-1, m.Need, m.Need+1)
		}
		for _, snr := range ratios {
			mode, code := impl.BestMode(r, snr)
			want, wantCode := slowBest(r, snr), int64(impl.OK)
			if want < 0 {
				want, wantCode = 0, impl.ErrNotFound
			}
			expect(t, "BestMode", []int64{mode, code}, []int64{want, wantCode})
		}
	}
	for snr, want := range map[int64][]int64{2999: {0, impl.ErrNotFound}, 3000: {0, 0}, 11999: {0, 0}, 12000: {1, 0}} {
		mode, code := impl.BestMode(twoModes(), snr)
		expect(t, "BestMode of the example", []int64{mode, code}, want)
	}
	for _, bad := range badRadios() {
		for _, snr := range []int64{math.MinInt64, 0, math.MaxInt64} {
			mode, code := impl.BestMode(bad, snr)
			expect(t, "BestMode of a bad radio", []int64{mode, code}, []int64{0, impl.ErrInvalid})
		}
	}
}

func TestPromise8LeastLevelsAndRatesFitTogether(t *testing.T) {
	for _, r := range radios() {
		below := int64(0)
		for i, m := range r.Modes {
			least, code := impl.LeastLevel(r, int64(i))
			expect(t, "LeastLevel", []int64{least, code}, []int64{m.Need + value(impl.NoiseFloor(r)) + r.Feeder, impl.OK})
			expect(t, "SnrOf the least level", value(impl.SnrOf(r, least)), m.Need)
			expect(t, "RateAt at and below the least level", []int64{impl.RateAt(r, least), impl.RateAt(r, least-1)}, []int64{m.Rate, below})
			below = m.Rate
		}
		expect(t, "RateAt the greatest and the least level", []int64{impl.RateAt(r, 300000), impl.RateAt(r, -300000)}, []int64{below, 0})
		for _, level := range badLevels {
			expect(t, "RateAt a bad level", impl.RateAt(r, level), 0)
		}
		for _, mode := range []int64{-1, int64(len(r.Modes)), 8, math.MinInt64, math.MaxInt64} {
			least, code := impl.LeastLevel(r, mode)
			expect(t, "LeastLevel for a bad mode", []int64{least, code}, []int64{0, impl.ErrRange})
		}
	}
	r := twoModes()
	expect(t, "the example", []int64{value(impl.LeastLevel(r, 0)), value(impl.LeastLevel(r, 1)), impl.RateAt(r, -96000), impl.RateAt(r, -96001), impl.RateAt(r, -105000), impl.RateAt(r, -105001)}, "[-105000 -96000 4000 1000 1000 0]")
	for _, bad := range badRadios() {
		for _, mode := range []int64{-1, 0, 9} {
			least, code := impl.LeastLevel(bad, mode)
			expect(t, "LeastLevel of a bad radio", []int64{least, code}, []int64{0, impl.ErrInvalid})
		}
		expect(t, "RateAt a bad radio", []int64{impl.RateAt(bad, 0), impl.RateAt(bad, 300000), impl.RateAt(bad, 300001)}, "[0 0 0]")
	}
}

func TestPromise8ArrivingLevels(t *testing.T) {
	gains := []int64{-60000, -2150, 0, 15000, 60000}
	for _, r := range radios() {
		for _, gain := range gains {
			for _, there := range gains {
				for _, loss := range []int64{0, 1, 100000, 300000} {
					level, code := impl.ArrivingLevel(r, gain, loss, there)
					expect(t, "ArrivingLevel", []int64{level, code}, []int64{r.Power - r.Feeder + gain - loss + there, impl.OK})
				}
			}
		}
		for _, c := range [][3]int64{{60001, 0, 0}, {-60001, 0, 0}, {0, -1, 0}, {0, 300001, 0}, {0, 0, 60001}, {0, 0, -60001}, {math.MinInt64, 0, 0}, {0, math.MinInt64, 0}, {0, 0, math.MinInt64}, {math.MaxInt64, 0, 0}, {0, math.MaxInt64, 0}, {0, 0, math.MaxInt64}} {
			level, code := impl.ArrivingLevel(r, c[0], c[1], c[2])
			expect(t, "ArrivingLevel out of range", []int64{level, code}, []int64{0, impl.ErrRange})
		}
	}
	expect(t, "ArrivingLevel of the example", value(impl.ArrivingLevel(twoModes(), 15000, 100000, 0)), -57000)
	for _, bad := range badRadios() {
		for _, loss := range append(badLosses, 0) {
			level, code := impl.ArrivingLevel(bad, 0, loss, 0)
			expect(t, "ArrivingLevel of a bad radio", []int64{level, code}, []int64{0, impl.ErrInvalid})
		}
	}
}

func TestPromise8GreatestLossesFitToBestModes(t *testing.T) {
	gains := []int64{-60000, 0, 17000, 60000}
	for _, a := range radios() {
		for _, b := range radios() {
			for _, gain := range gains {
				for _, there := range gains {
					for mode := range int64(len(b.Modes)) {
						expectGreatestLoss(t, a, gain, b, there, mode)
					}
				}
			}
		}
	}
	r := twoModes()
	expect(t, "the example", []int64{value(impl.GreatestLoss(r, 15000, r, 0, 0)), value(impl.GreatestLoss(r, 15000, r, 0, 1)), value(impl.GreatestLoss(r, -60000, r, -60000, 1))}, "[148000 139000 4000]")
	edge := twoModes()
	edge.Power = 26000 // exactly the least level arrives over a path without a loss
	loss, code := impl.GreatestLoss(edge, -60000, r, -60000, 1)
	expect(t, "GreatestLoss 0", []int64{loss, code}, []int64{0, impl.OK})
	edge.Power = 25999
	loss, code = impl.GreatestLoss(edge, -60000, r, -60000, 1)
	expect(t, "GreatestLoss that would be negative", []int64{loss, code}, []int64{0, impl.ErrNotFound})
}

// expectGreatestLoss checks that a mode can just be used over a path with the greatest loss.
func expectGreatestLoss(t *testing.T, a impl.Radio, gain int64, b impl.Radio, there, mode int64) {
	t.Helper()
	least := value(impl.LeastLevel(b, mode))
	want, wantCode := value(impl.EirpOf(a, gain))+there-least, int64(impl.OK)
	if want < 0 {
		want, wantCode = 0, impl.ErrNotFound
	}
	loss, code := impl.GreatestLoss(a, gain, b, there, mode)
	expect(t, "GreatestLoss", []int64{loss, code}, []int64{want, wantCode})
	if code != impl.OK || loss >= 300000 {
		return
	}
	level, beyond := value(impl.ArrivingLevel(a, gain, loss, there)), value(impl.ArrivingLevel(a, gain, loss+1, there))
	expect(t, "the level over the greatest loss", level, least)
	expect(t, "the mode over the greatest loss", value(impl.BestMode(b, value(impl.SnrOf(b, level)))), mode)
	if rate := impl.RateAt(b, beyond); rate >= b.Modes[mode].Rate {
		t.Errorf("with a greater loss than %d, %v still has the rate %d", loss, b, rate)
	}
}

func TestPromise8GreatestLossesWithErrors(t *testing.T) {
	r, other := twoModes(), tuned("t5", 5)
	check := func(a impl.Radio, gain int64, b impl.Radio, there, mode, want int64) {
		t.Helper()
		loss, code := impl.GreatestLoss(a, gain, b, there, mode)
		expect(t, "GreatestLoss with errors", []int64{loss, code}, []int64{0, want})
	}
	for _, gain := range badGains {
		check(r, gain, r, 0, 0, impl.ErrRange)
		check(r, 0, r, gain, 0, impl.ErrRange)
		check(r, gain, r, -gain, 0, impl.ErrRange)
	}
	for _, mode := range []int64{-1, 2, 5, math.MinInt64, math.MaxInt64} {
		check(other, 0, r, 0, mode, impl.ErrRange)
		check(radios()[1], -60000, r, -60000, mode, impl.ErrRange)
	}
	_, code := impl.GreatestLoss(r, 60000, other, 60000, 4)
	expect(t, "GreatestLoss for a mode that only b has", code, impl.OK)
	for _, bad := range badRadios() {
		check(bad, 0, r, 0, 0, impl.ErrInvalid)
		check(r, 0, bad, 0, 0, impl.ErrInvalid)
		check(bad, 60001, bad, 0, -1, impl.ErrInvalid)
		check(r, 60001, bad, 0, 8, impl.ErrInvalid)
	}
}

// radioText joins what the document names.
func radioText(r impl.Radio) string {
	var modes []string
	for _, m := range r.Modes {
		modes = append(modes, impl.Decimal(m.Need)+"/"+impl.Decimal(m.Rate))
	}
	return strings.Join([]string{r.Name, impl.Decimal(r.Power), impl.Decimal(r.Feeder), impl.Decimal(r.Noise), impl.Decimal(r.Width), strings.Join(modes, ",")}, " ")
}

func TestPromise8TextsOfRadios(t *testing.T) {
	for _, r := range radios() {
		text := impl.RadioText(r)
		expect(t, "RadioText", text, radioText(r))
		back, ok := impl.ReadRadio(text)
		if !ok || !impl.SameRadio(back, r) {
			t.Errorf("ReadRadio(%q) = %v, %v", text, back, ok)
		}
	}
	expect(t, "RadioText of the example", impl.RadioText(twoModes()), "r1 30000 2000 4000 1000 3000/1000,12000/4000")
	for _, bad := range badRadios() {
		expect(t, "RadioText of a bad radio", impl.RadioText(bad), "")
		back, ok := impl.ReadRadio(radioText(bad))
		expect(t, "ReadRadio of what would be the text of a bad radio", []any{back, ok}, []any{impl.Radio{}, false})
	}
}

// otherRadioTexts are nearly texts of radios.
func otherRadioTexts() []string {
	text := impl.RadioText(twoModes())
	list := []string{text + " ", " " + text, text + "\n", text + ",", text + "/", text + "/1", text + " 0", text + ",x", text + ",1/", "r1 30000 2000 4000 1000", "r1 30000 2000 4000 1000 ", "r1 30000 2000 4000 1000 -", "r1 30000 2000 4000 3000/1000"}
	for _, change := range [][2]string{
		{" ", "  "}, {" ", "\t"}, {"r1", "R1"}, {"30000", "+30000"}, {"30000", "030000"}, {"30000", "100001"}, {"30000", "30000.0"}, {" 2000", " -2000"}, {" 2000", " 2000,4000"}, {" 2000", " x"},
		{"3000/1000", "3000/01000"}, {"3000/1000", "3000"}, {"3000/1000", "/1000"}, {"3000/1000", "3000/"}, {"3000/1000", "-0/1000"}, {",12000", ";12000"}, {",", ",,"}, {"/", "//"},
		{"3000/1000,12000/4000", "12000/4000,3000/1000"}, {"3000/1000,12000/4000", "3000/1000 12000/4000"}, {"3000/1000,12000/4000", strings.Repeat("1/1,", 100000) + "1/1"},
	} {
		list = append(list, strings.Replace(text, change[0], change[1], 1))
	}
	return list
}

func TestPromise8OtherTextsAreNotRead(t *testing.T) {
	for _, s := range append(otherRadioTexts(), oddTexts...) {
		if r, ok := impl.ReadRadio(s); ok || !impl.SameRadio(r, impl.Radio{}) {
			t.Errorf("ReadRadio(%.60q) = %v, %v", s, r, ok)
		}
	}
}
