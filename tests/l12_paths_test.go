package tests

import (
	"math"
	"math/rand"
	"slices"
	"testing"

	"loop.example/g00925/impl"
)

func end(x, y, above int64) impl.End { return impl.End{Place: point(x, y), Above: above} }

// badEnds are not valid, each for one reason.
func badEnds() []impl.End {
	list := []impl.End{{}}
	for _, above := range []int64{0, -1, 3001, math.MinInt64, math.MaxInt64} {
		list = append(list, end(0, 0, above), end(3, 0, above))
	}
	for _, p := range badPoints {
		list = append(list, impl.End{Place: p, Above: 5})
	}
	return list
}

// endsIn returns ends in a terrain at all kinds of heights, no two of them at the same place.
func endsIn(g impl.Terrain, count int) []impl.End {
	source := rand.New(rand.NewSource(12))
	var list []impl.End
	for _, p := range inside(g, 4*count) {
		above := []int64{1, 2, 60, 3000, 1 + source.Int63n(300), 1 + source.Int63n(3000)}[source.Intn(6)]
		taken := slices.ContainsFunc(list, func(e impl.End) bool { return e.Place == p })
		if !taken && len(list) < count {
			list = append(list, impl.End{Place: p, Above: above})
		}
	}
	return list
}

// pathGrounds returns terrains over which paths of all kinds lead.
func pathGrounds() []impl.Terrain {
	return append(terrains(), rough(250, 24, 24, 60), rough(500, 20, 20, 400), rough(1000, 24, 24, 1500), flat(500, 9, 9, 50), ledge(false), ledge(true))
}

func flat(step, width, height, h int64) impl.Terrain {
	g, _ := impl.FlatTerrain(step, width, height, h)
	return g
}

// ledge is a terrain with a flat top, over which the first one of several equal edges is another one in each direction.
func ledge(northward bool) impl.Terrain {
	if northward {
		return impl.Terrain{Step: 2, Width: 2, Height: 5, Heights: []int64{0, 0, 0, 0, 10, 0, 10, 0, 0, 0}, Clutter: zeros(10)}
	}
	return impl.Terrain{Step: 2, Width: 5, Height: 2, Heights: []int64{0, 0, 10, 10, 0, 0, 0, 0, 0, 0}, Clutter: zeros(10)}
}

// ridged is flat ground of 16 times 16 points with a ridge that is h decimetres high in the column 6.
func ridged(h int64) impl.Terrain {
	g := flat(100, 16, 16, 100)
	for y := range int64(16) {
		g.Heights[16*y+6] = h
	}
	return g
}

func TestPromise13ValidEnds(t *testing.T) {
	for _, e := range []impl.End{end(0, 0, 1), end(0, 0, 3000), end(200000, 200000, 300), end(3, 4, 1500)} {
		expect(t, "ValidEnd", impl.ValidEnd(e), true)
	}
	for _, e := range badEnds() {
		if impl.ValidEnd(e) {
			t.Errorf("the bad end %v is valid", e)
		}
	}
}

func TestPromise13HeightsOfEnds(t *testing.T) {
	for _, g := range pathGrounds() {
		for _, e := range endsIn(g, 30) {
			h, code := impl.EndHeight(g, e)
			expect(t, "EndHeight", []int64{h, code}, []int64{value(impl.HeightAt(g, e.Place)) + e.Above, impl.OK})
		}
	}
	expect(t, "EndHeight in the middle", value(impl.EndHeight(four(), end(5, 5, 3000))), 3015)
}

// slowProfile returns the profile between two ends by the words of the document.
func slowProfile(g impl.Terrain, a, b impl.End) impl.Profile {
	heights, _ := impl.ProfileOf(g, a.Place, b.Place, 17)
	first, last := value(impl.HeightAt(g, a.Place))+a.Above, value(impl.HeightAt(g, b.Place))+b.Above
	return impl.Profile{Distance: impl.Distance(a.Place, b.Place), First: first, Last: last, Heights: heights}
}

func TestPromise13ProfilesBetweenEnds(t *testing.T) {
	for _, g := range pathGrounds() {
		list := endsIn(g, 12)
		for i, a := range list {
			for _, b := range list[:i] {
				p, code := impl.ProfileBetween(g, a, b)
				expect(t, "ProfileBetween", []any{p, code}, []any{slowProfile(g, a, b), impl.OK})
				back, _ := impl.ProfileBetween(g, b, a)
				turned, code := impl.TurnProfile(p)
				expect(t, "ProfileBetween from the other end", []any{back, code}, []any{turned, impl.OK})
			}
		}
	}
	p, code := impl.ProfileBetween(ridged(600), end(100, 100, 300), end(1100, 100, 5))
	expect(t, "ProfileBetween over a ridge", []any{p, code}, "[{1000 400 105 [100 100 100 100 100 100 100 290 600 285 100 100 100 100 100 100 100]} 0]")
}

// slowElevation tries all elevations by the words of the document.
func slowElevation(distance, h int64) int64 {
	best, most := int64(0), int64(math.MinInt64)
	for e := int64(-90); e <= 90; e++ {
		if v := 10*distance*impl.Cosine(e) + h*impl.Sine(e); v > most {
			best, most = e, v
		}
	}
	return best
}

func TestPromise13Elevations(t *testing.T) {
	for _, g := range pathGrounds() {
		list := endsIn(g, 20)
		for _, a := range list {
			for _, b := range list {
				if a.Place != b.Place {
					p := slowProfile(g, a, b)
					e, code := impl.ElevationOf(g, a, b)
					expect(t, "ElevationOf", []int64{e, code}, []int64{slowElevation(p.Distance, p.Last-p.First), impl.OK})
				}
			}
		}
	}
}

// rises are heights of an end above another one, and the elevation over some metres.
var rises = []struct{ distance, h, elevation int64 }{
	{100, 1000, 45}, {100, 0, 0}, {100, -1000, -45}, {1000, 87, 0}, {1000, 88, 1}, {1000, -87, 0}, {1000, -88, -1}, {1, 5, 27}, {1, -5, -27},
	{1, 572, 89}, {1, -573, -89}, {1, 2999, 90}, {1, -2999, -90}, {4363, 380, 0}, {4363, -380, -1}, // at 4363, 1 and -1 are as great as 0
	{4363, 381, 1}, {4363, 379, 0}, {4363, -379, 0}, {200000, 2999, 0}, {200000, -2999, 0},
}

func TestPromise13ElevationsOverFlatGround(t *testing.T) {
	for _, r := range rises {
		g := flat(min(r.distance, 10000), 24, 2, 90000)
		if r.distance > 10000 {
			g = flat(10000, 21, 2, 0)
		}
		a, b := end(r.distance, 0, 1), end(0, 0, 1)
		if r.h > 0 {
			b.Above += r.h
		} else {
			a.Above -= r.h
		}
		e, code := impl.ElevationOf(g, a, b)
		expect(t, "ElevationOf", []int64{r.distance, r.h, e, code}, []int64{r.distance, r.h, r.elevation, impl.OK})
	}
	cliff := flat(1, 2, 2, 0)
	cliff.Heights[1] = 90000
	up, down := value(impl.ElevationOf(cliff, end(0, 0, 1), end(1, 0, 3000))), value(impl.ElevationOf(cliff, end(1, 0, 3000), end(0, 0, 1)))
	expect(t, "ElevationOf up and down a cliff", []int64{up, down}, "[90 -90]")
}

// slowPath returns the path between two ends by the words of the document.
func slowPath(g impl.Terrain, a, b impl.End, f int64) impl.Path {
	p := slowProfile(g, a, b)
	d := p.Distance
	r := impl.Path{Distance: d, Bearing: impl.Bearing(a.Place, b.Place), Elevation: slowElevation(d, p.Last-p.First), Free: value(impl.FreeLoss(f, d)), Gas: value(impl.GasLoss(f, d))}
	seen := p
	if b.Place.X < a.Place.X || b.Place.X == a.Place.X && b.Place.Y < a.Place.Y {
		seen = slowProfile(g, b, a)
	}
	r.Diffraction = value(impl.DeygoutLoss(seen, f))
	for _, e := range []impl.End{a, b} {
		r.Clutter += value(impl.ClutterLoss(value(impl.ClutterAt(g, e.Place)), f, e.Above))
	}
	r.Total = r.Free + r.Gas + r.Diffraction + r.Clutter
	r.Clear = impl.IsClear(p, f, 600)
	return r
}

var pathFrequencies = []int64{1, 300000, 900000, 1000001, 6000000, 38000000, 100000000}

func TestPromise13Paths(t *testing.T) {
	for _, g := range pathGrounds() {
		list := endsIn(g, 9)
		for _, a := range list {
			for _, b := range list {
				for _, f := range pathFrequencies {
					if a.Place != b.Place {
						path, code := impl.PathOf(g, a, b, f)
						expect(t, "PathOf", []any{path, code}, []any{slowPath(g, a, b, f), impl.OK})
					}
				}
			}
		}
	}
}

func TestPromise13ExamplesOfPaths(t *testing.T) {
	path, code := impl.PathOf(flat(100, 16, 16, 100), end(100, 100, 300), end(1100, 100, 300), 900000)
	expect(t, "the document's example", []any{path, code}, "[{1000 90 0 91532 5 0 0 91537 true} 0]")
	path, code = impl.PathOf(ridged(600), end(100, 100, 300), end(1100, 100, 300), 900000)
	expect(t, "over a ridge", []any{path, code}, "[{1000 90 0 91532 5 22714 0 114251 false} 0]")
	settled := flat(1000, 11, 2, 0)
	settled.Clutter[0], settled.Clutter[10] = 4, 3
	path, code = impl.PathOf(settled, end(10000, 0, 60), end(0, 0, 15), 2000000)
	expect(t, "from trees to a village", []any{path, code}, "[{10000 270 0 118468 60 16320 12286 147134 false} 0]")
	path, code = impl.PathOf(flat(10000, 21, 2, 0), end(0, 10000, 100), end(200000, 0, 3000), 100000000)
	expect(t, "beyond the horizon", []any{path, code}, "[{200249 93 0 178478 96120 120754 0 395352 false} 0]")
}

// expectSameLosses checks that a path loses the same in both directions, and what it has of its direction.
func expectSameLosses(t *testing.T, g impl.Terrain, a, b impl.End, f int64) {
	t.Helper()
	there, thereCode := impl.PathOf(g, a, b, f)
	back, backCode := impl.PathOf(g, b, a, f)
	bearing, elevation := back.Bearing, back.Elevation
	back.Bearing, back.Elevation = there.Bearing, there.Elevation
	if there != back || thereCode != impl.OK || backCode != impl.OK {
		t.Errorf("from %v to %v the path is %v, and back %v", a, b, there, back)
	}
	if impl.Turn(bearing, there.Bearing) < 179 || elevation+there.Elevation < -1 || elevation+there.Elevation > 1 {
		t.Errorf("from %v to %v the directions are %v, and back %d and %d", a, b, there, bearing, elevation)
	}
}

func TestPromise13PathsLoseTheSameInBothDirections(t *testing.T) {
	for _, g := range pathGrounds() {
		list := endsIn(g, 14)
		for i, a := range list {
			for _, b := range list[:i] {
				for _, f := range pathFrequencies {
					expectSameLosses(t, g, a, b, f)
				}
			}
		}
	}
}

func TestPromise13DiffractionIsSeenFromTheLesserEnd(t *testing.T) {
	for _, c := range []struct {
		ground      impl.Terrain
		first, last impl.End
	}{{ledge(false), end(0, 0, 11), end(8, 0, 8)}, {ledge(true), end(0, 0, 11), end(0, 8, 8)}} {
		p := slowProfile(c.ground, c.first, c.last)
		turned, _ := impl.TurnProfile(p)
		losses := []int64{value(impl.DeygoutLoss(p, 38000000)), value(impl.DeygoutLoss(turned, 38000000))}
		expect(t, "the losses seen from both ends", losses, "[38702 22362]")
		there, _ := impl.PathOf(c.ground, c.first, c.last, 38000000)
		back, _ := impl.PathOf(c.ground, c.last, c.first, 38000000)
		expect(t, "Diffraction in both directions", []int64{there.Diffraction, there.Total, back.Diffraction, back.Total}, "[38702 120806 38702 120806]")
	}
}

// The lesser X counts before the lesser Y.
func TestPromise13DiffractionOfFallingPaths(t *testing.T) {
	source := rand.New(rand.NewSource(13))
	differ := 0
	for range 300 {
		g := flat(2, 5, 5, 0)
		for i := range g.Heights {
			g.Heights[i] = 10 * source.Int63n(2)
		}
		first, last := end(0, 8, 1+source.Int63n(12)), end(2+2*source.Int63n(4), 0, 1+source.Int63n(12))
		seen, other := value(impl.DeygoutLoss(slowProfile(g, first, last), 38000000)), value(impl.DeygoutLoss(slowProfile(g, last, first), 38000000))
		if seen != other {
			differ++
		}
		there, _ := impl.PathOf(g, first, last, 38000000)
		back, _ := impl.PathOf(g, last, first, 38000000)
		expect(t, "Diffraction in both directions", []int64{there.Diffraction, back.Diffraction}, []int64{seen, seen})
	}
	if differ < 5 {
		t.Errorf("only %d of the paths show from which end they are seen", differ)
	}
}

// reported is the order in which the errors of paths, networks and bands are reported.
var reported = []int64{impl.ErrInvalid, impl.ErrRange, impl.ErrNotFound, impl.ErrExists, impl.ErrFull, impl.ErrState}

// firstReported returns the code that is reported of all that apply.
func firstReported(codes ...int64) int64 {
	for _, code := range reported {
		if slices.Contains(codes, code) {
			return code
		}
	}
	return impl.OK
}

// choice is an argument, and the error that it causes.
type choice[T any] struct {
	value T
	code  int64
}

// choicesOf returns a good argument and bad ones.
func choicesOf[T any](good T, code int64, bad ...T) []choice[T] {
	list := []choice[T]{{good, impl.OK}}
	for _, v := range bad {
		list = append(list, choice[T]{v, code})
	}
	return list
}

func groundChoices() []choice[impl.Terrain] {
	list := choicesOf(flat(100, 16, 16, 100), impl.ErrInvalid, badTerrains()...)
	high := flat(100, 16, 16, 100)
	high.Heights[255] = 90001
	return append(list[:3], choice[impl.Terrain]{high, impl.ErrInvalid}, list[len(list)-1])
}

// endChoices returns a good end, bad ones, and ends beyond the ground.
func endChoices(good impl.End) []choice[impl.End] {
	list := choicesOf(good, impl.ErrInvalid, badEnds()...)
	beyond := choicesOf(good, impl.ErrRange, end(1501, 100, 5), end(100, 1501, 5), end(200000, 200000, 3000))
	return append(list, beyond[1:]...)
}

var frequencyChoices = choicesOf(900000, impl.ErrRange, badFrequencies...)

func TestPromise13HeightsOfEndsWithErrors(t *testing.T) {
	for _, g := range groundChoices() {
		for _, e := range endChoices(end(1500, 1500, 300)) {
			h, code := impl.EndHeight(g.value, e.value)
			if want := firstReported(g.code, e.code); code != want || want != impl.OK && h != 0 {
				t.Errorf("EndHeight of %v = %d, %d, want %d", e.value, h, code, want)
			}
		}
	}
}

// expectPathCodes checks the codes of all functions of two ends, and that nothing else is returned with an error.
func expectPathCodes(t *testing.T, g impl.Terrain, a, b impl.End, f, want, wantWithFrequency int64) {
	t.Helper()
	profile, profileCode := impl.ProfileBetween(g, a, b)
	elevation, elevationCode := impl.ElevationOf(g, a, b)
	path, pathCode := impl.PathOf(g, a, b, f)
	above, aboveCode := impl.HeightFor(g, a, b, f)
	codes := []int64{profileCode, elevationCode, pathCode, aboveCode}
	if !slices.Equal(codes, []int64{want, want, wantWithFrequency, wantWithFrequency}) {
		t.Errorf("from %v to %v at %d kHz the codes are %v, want %d and %d", a, b, f, codes, want, wantWithFrequency)
	}
	if want != impl.OK {
		expect(t, "ProfileBetween and ElevationOf with an error", []any{profile, elevation}, []any{impl.Profile{}, 0})
	}
	if wantWithFrequency != impl.OK {
		expect(t, "PathOf and HeightFor with an error", []any{path, above}, []any{impl.Path{}, 0})
	}
}

func TestPromise13PathsWithErrors(t *testing.T) {
	far := endChoices(end(1100, 100, 300))
	for _, g := range groundChoices() {
		for _, a := range endChoices(end(100, 100, 300)) {
			same := choice[impl.End]{a.value, firstReported(a.code, impl.ErrState)}
			other := choice[impl.End]{end(100, 100, 5), impl.OK} // at the place of the good end, but not as high
			if a.value.Place == other.value.Place {
				other.code = impl.ErrState
			}
			for _, b := range append(slices.Clone(far), same, other) {
				for _, f := range frequencyChoices {
					want := firstReported(g.code, a.code, b.code)
					expectPathCodes(t, g.value, a.value, b.value, f.value, want, firstReported(g.code, a.code, b.code, f.code))
				}
			}
		}
	}
}

func TestPromise13LossesInADirection(t *testing.T) {
	g := rough(1000, 24, 24, 1500)
	a := end(11300, 12100, 200)
	bearings := []int64{-1, -90, 359, 360, 361, 725, math.MinInt64, math.MaxInt64}
	for d := int64(0); d < 360; d += 7 {
		bearings = append(bearings, d)
	}
	for _, bearing := range bearings {
		for _, c := range [][2]int64{{1, 1}, {1, 20}, {500, 20}, {5000, 2}, {10000, 1}, {997, 3}} {
			var want []int64
			for i := range c[1] {
				place, code := impl.Move(a.Place, bearing, (i+1)*c[0])
				expect(t, "Move", code, impl.OK)
				want = append(want, slowPath(g, a, impl.End{Place: place, Above: a.Above}, 6000000).Total)
			}
			losses, code := impl.LossesAlong(g, a, 6000000, bearing, c[0], c[1])
			expect(t, "LossesAlong", []any{losses, code}, []any{want, impl.OK})
		}
	}
	losses, code := impl.LossesAlong(flat(10000, 21, 2, 0), end(0, 0, 3000), 900000, 90, 10000, 20)
	expect(t, "the number, the first and the last one of the farthest losses", []any{len(losses), losses[0], losses[19], code}, []any{20, 111582, 184094, 0})
}

func TestPromise13LossesBeyondTheGround(t *testing.T) {
	g := flat(100, 16, 16, 100)
	a := end(1000, 500, 300)
	for _, c := range []struct{ bearing, step, count, code int64 }{
		{90, 500, 1, impl.OK}, {90, 501, 1, impl.ErrState}, {90, 250, 2, impl.OK}, {90, 250, 3, impl.ErrState}, {90, 25, 20, impl.OK}, {90, 26, 20, impl.ErrState},
		{0, 1000, 1, impl.OK}, {0, 1001, 1, impl.ErrState}, {180, 500, 1, impl.OK}, {180, 501, 1, impl.ErrState}, {270, 1000, 1, impl.OK}, {270, 1001, 1, impl.ErrState},
		{180, 10000, 20, impl.ErrState}, {45, 10000, 20, impl.ErrState}, {45, 10000, 1, impl.ErrState},
	} {
		losses, code := impl.LossesAlong(g, a, 900000, c.bearing, c.step, c.count)
		if code != c.code || code != impl.OK && len(losses) > 0 || code == impl.OK && int64(len(losses)) != c.count {
			t.Errorf("LossesAlong of %v = %v, %d", c, losses, code)
		}
	}
	losses, code := impl.LossesAlong(flat(10000, 21, 21, 0), end(0, 0, 1), 900000, 45, 10000, 20)
	expect(t, "LossesAlong the diagonal", []any{len(losses), code}, "[20 0]")
	losses, code = impl.LossesAlong(flat(10000, 21, 21, 0), end(1, 0, 1), 900000, 90, 10000, 20)
	expect(t, "LossesAlong beyond all places", []any{losses, code}, "[[] 6]")
}

func TestPromise13LossesInADirectionWithErrors(t *testing.T) {
	steps := choicesOf(int64(10), impl.ErrRange, 0, -1, 10001, math.MinInt64, math.MaxInt64)
	counts := choicesOf(int64(3), impl.ErrRange, 0, -1, 21, math.MinInt64, math.MaxInt64)
	bearings := []choice[int64]{{90, impl.OK}, {180, impl.ErrState}} // the ground ends in the south
	for _, g := range groundChoices() {
		for _, a := range endChoices(end(100, 0, 300)) {
			for _, f := range frequencyChoices[:3] {
				for _, bearing := range bearings {
					for _, step := range steps {
						for _, count := range counts {
							losses, code := impl.LossesAlong(g.value, a.value, f.value, bearing.value, step.value, count.value)
							want := firstReported(g.code, a.code, f.code, bearing.code, step.code, count.code)
							if code != want || code != impl.OK && len(losses) > 0 {
								t.Errorf("LossesAlong from %v at %d kHz, %d, %d, %d = %v, %d, want %d", a.value, f.value, bearing.value, step.value, count.value, losses, code, want)
							}
						}
					}
				}
			}
		}
	}
	for _, f := range frequencyChoices {
		_, code := impl.LossesAlong(flat(100, 16, 16, 100), end(100, 0, 300), f.value, 90, 10000, 20)
		expect(t, "the code beyond the ground", code, firstReported(f.code, impl.ErrState))
	}
}

func TestPromise13WorstPaths(t *testing.T) {
	for _, g := range pathGrounds() {
		list := endsIn(g, 12)
		for k := 1; k < len(list); k++ {
			for _, f := range pathFrequencies {
				worst, most := -1, int64(0)
				for i, b := range list[1 : k+1] {
					if total := slowPath(g, list[0], b, f).Total; worst < 0 || total > most {
						worst, most = i, total
					}
				}
				i, total, code := impl.WorstOfPaths(g, list[0], list[1:k+1], f)
				expect(t, "WorstOfPaths", []int64{i, total, code}, []int64{int64(worst), most, impl.OK})
			}
		}
	}
	g := flat(100, 16, 16, 100)
	near, far := end(500, 500, 300), end(1500, 100, 300)
	for _, c := range []struct {
		list []impl.End
		want int64
	}{{[]impl.End{near, far, far}, 1}, {[]impl.End{far, near, far}, 0}, {[]impl.End{near, near}, 0}, {[]impl.End{near}, 0}, {append(slices.Repeat([]impl.End{near}, 63), far), 63}} {
		i, _, code := impl.WorstOfPaths(g, end(100, 100, 300), c.list, 900000)
		expect(t, "the first one of several", []int64{i, code}, []int64{c.want, impl.OK})
	}
	i, total, code := impl.WorstOfPaths(g, end(100, 100, 300), []impl.End{end(101, 100, 300), end(100, 101, 300)}, 1)
	expect(t, "WorstOfPaths without losses", []int64{i, total, code}, "[0 0 0]")
}

// listChoices returns lists of ends, which may be at the place of a, and what they cause.
func listChoices(a impl.End) []choice[[]impl.End] {
	good, high := end(1100, 100, 300), end(a.Place.X, a.Place.Y, 5)
	beyond, bad := end(1501, 0, 5), end(1100, 100, 0)
	many := slices.Repeat([]impl.End{good}, 64)
	list := choicesOf(many[:2], impl.ErrState, nil, []impl.End{})
	list = append(list, choice[[]impl.End]{many, impl.OK})
	for _, start := range []int{0, 1, 63} {
		list = append(list,
			choice[[]impl.End]{append(slices.Clone(many[:start]), beyond), impl.ErrRange},
			choice[[]impl.End]{append(slices.Clone(many[:start]), bad), impl.ErrInvalid},
			choice[[]impl.End]{append(slices.Clone(many[:start]), bad, beyond), impl.ErrInvalid},
			choice[[]impl.End]{append([]impl.End{beyond, bad}, many[:start]...), impl.ErrInvalid})
		if impl.ValidEnd(high) {
			list = append(list, choice[[]impl.End]{append(slices.Clone(many[:start]), high), impl.ErrState})
		}
	}
	for _, more := range [][]impl.End{many, slices.Repeat(many, 10)} {
		list = append(list,
			choice[[]impl.End]{append(slices.Clone(more), good), impl.ErrFull},
			choice[[]impl.End]{append(slices.Clone(more), beyond), impl.ErrRange},
			choice[[]impl.End]{append(slices.Clone(more), bad), impl.ErrInvalid},
			choice[[]impl.End]{append([]impl.End{beyond}, append(slices.Clone(more), bad)...), impl.ErrInvalid})
		if impl.ValidEnd(high) {
			list = append(list, choice[[]impl.End]{append(slices.Clone(more), high), impl.ErrFull}, choice[[]impl.End]{append([]impl.End{high}, more...), impl.ErrFull})
		}
	}
	return list
}

func TestPromise13WorstPathsWithErrors(t *testing.T) {
	for _, g := range groundChoices() {
		for _, a := range endChoices(end(100, 100, 300)) {
			for _, list := range listChoices(a.value) {
				for _, f := range frequencyChoices {
					i, total, code := impl.WorstOfPaths(g.value, a.value, list.value, f.value)
					want := firstReported(g.code, a.code, list.code, f.code)
					if code != want || code != impl.OK && (i != 0 || total != 0) {
						t.Errorf("WorstOfPaths from %v to %d ends at %d kHz = %d, %d, %d, want %d", a.value, len(list.value), f.value, i, total, code, want)
					}
				}
			}
		}
	}
	i, total, code := impl.WorstOfPaths(flat(100, 16, 16, 100), end(100, 100, 300), slices.Repeat([]impl.End{end(1100, 100, 300)}, 100000), 900000)
	expect(t, "WorstOfPaths to many ends", []int64{i, total, code}, []int64{0, 0, impl.ErrFull})
}

// slowHeightFor tries all heights of an end by the words of the document; 0 if there is none.
func slowHeightFor(g impl.Terrain, a, b impl.End, f int64) int64 {
	p := slowProfile(g, a, b)
	for above := int64(1); above <= 3000; above++ {
		p.First = value(impl.HeightAt(g, a.Place)) + above
		if impl.IsClear(p, f, 600) {
			return above
		}
	}
	return 0
}

// expectHeight checks HeightFor, and that the path is clear with this height and higher, but not below.
func expectHeight(t *testing.T, g impl.Terrain, a, b impl.End, f int64) {
	t.Helper()
	want, wantCode := slowHeightFor(g, a, b, f), int64(impl.OK)
	if want == 0 {
		wantCode = impl.ErrNotFound
	}
	above, code := impl.HeightFor(g, a, b, f)
	expect(t, "HeightFor", []int64{above, code}, []int64{want, wantCode})
	if code != impl.OK {
		return
	}
	for _, v := range []int64{above - 1, above, above + 1, 3000} {
		if v >= 1 && v <= 3000 {
			path, _ := impl.PathOf(g, impl.End{Place: a.Place, Above: v}, b, f)
			if path.Clear != (v >= above) {
				t.Errorf("HeightFor is %d, but with %d the path is %v", above, v, path)
			}
		}
	}
}

func TestPromise13LeastHeightsForClearPaths(t *testing.T) {
	for _, g := range pathGrounds() {
		list := endsIn(g, 5)
		for _, a := range list {
			for _, b := range list {
				for _, f := range []int64{1, 900000, 38000000, 100000000} {
					if a.Place != b.Place {
						expectHeight(t, g, a, b, f)
					}
				}
			}
		}
	}
}

func TestPromise13ExamplesOfLeastHeights(t *testing.T) {
	a, b := end(100, 100, 300), end(1100, 100, 300)
	heights := []int64{value(impl.HeightFor(ridged(100), a, b, 900000)), value(impl.HeightFor(ridged(600), a, b, 900000)), value(impl.HeightFor(ridged(600), end(100, 100, 3000), b, 900000))}
	expect(t, "HeightFor over flat ground and a ridge", heights, "[9 809 809]")
	// A ridge in the middle needs two decimetres more for one, and one less for each that the other end is higher.
	for _, c := range []struct{ ridge, above, want, code int64 }{{1695, 299, 3000, impl.OK}, {1695, 298, 0, impl.ErrNotFound}, {1695, 300, 2999, impl.OK}, {90000, 3000, 0, impl.ErrNotFound}, {100, 3000, 1, impl.OK}} {
		above, code := impl.HeightFor(ridged(c.ridge), a, end(1100, 100, c.above), 900000)
		expect(t, "HeightFor at the limits", []int64{c.ridge, c.above, above, code}, []int64{c.ridge, c.above, c.want, c.code})
	}
}

func TestPromise13TextsOfPaths(t *testing.T) {
	path := impl.Path{Distance: 5, Bearing: 90, Elevation: -1, Free: 2, Gas: 3, Diffraction: 4, Clutter: 6, Total: 15, Clear: true}
	expect(t, "PathText", impl.PathText(path), "distance 5 bearing 90 elevation -1 free 2 gas 3 diffraction 4 clutter 6 total 15 clear")
	path.Clear = false
	expect(t, "PathText", impl.PathText(path), "distance 5 bearing 90 elevation -1 free 2 gas 3 diffraction 4 clutter 6 total 15 obstructed")
	expect(t, "PathText of no path", impl.PathText(impl.Path{}), "distance 0 bearing 0 elevation 0 free 0 gas 0 diffraction 0 clutter 0 total 0 obstructed")
	odd := impl.PathText(impl.Path{Distance: math.MinInt64, Total: math.MaxInt64})
	expect(t, "PathText of odd numbers", odd, "distance -9223372036854775808 bearing 0 elevation 0 free 0 gas 0 diffraction 0 clutter 0 total 9223372036854775807 obstructed")
}
