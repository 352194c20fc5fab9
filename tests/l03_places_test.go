package tests

import (
	"math"
	"math/big"
	"math/rand"
	"testing"

	"loop.example/g00925/impl"
)

// point is short for a literal of a point.
func point(x, y int64) impl.Point { return impl.Point{X: x, Y: y} }

// places returns valid points, near to each other, far away and at the edges, the same ones at every call.
func places(count int) []impl.Point {
	source := rand.New(rand.NewSource(3))
	list := []impl.Point{point(0, 0), point(impl.MaxCoordinate, 0), point(0, impl.MaxCoordinate), point(impl.MaxCoordinate, impl.MaxCoordinate)}
	for len(list) < count {
		spread := []int64{5, 300, 20000, impl.MaxCoordinate}[source.Intn(4)]
		list = append(list, point(source.Int63n(spread+1), source.Int63n(spread+1)))
	}
	return list
}

// badPoints are not valid.
var badPoints = []impl.Point{
	{X: -1}, {Y: -1}, {X: 200001}, {Y: 200001}, {X: 200001, Y: 200001}, {X: math.MinInt64}, {Y: math.MinInt64},
	{X: math.MaxInt64, Y: math.MaxInt64}, {X: math.MinInt64, Y: math.MaxInt64}, {X: 5, Y: math.MaxInt64},
}

func TestPromise4ValidPoints(t *testing.T) {
	for _, p := range []impl.Point{{}, {X: 200000}, {Y: 200000}, {X: 200000, Y: 200000}, {X: 1, Y: 2}} {
		expect(t, "ValidPoint", impl.ValidPoint(p), true)
	}
	for _, p := range badPoints {
		expect(t, "ValidPoint of a bad point", impl.ValidPoint(p), false)
	}
}

func TestPromise4DistancesAreRootsRoundedDown(t *testing.T) {
	expect(t, "the document's example", impl.Distance(point(0, 0), point(3000, 4000)), 5000)
	expect(t, "the greatest distance", impl.Distance(point(0, 200000), point(200000, 0)), 282842)
	expect(t, "a distance rounded down", impl.Distance(point(7, 7), point(9, 9)), 2)
	list := places(120)
	for _, a := range list {
		expect(t, "the distance of equal points", impl.Distance(a, a), 0)
		for _, b := range list {
			x, y := a.X-b.X, a.Y-b.Y
			want := new(big.Int).Sqrt(big.NewInt(x*x + y*y)).Int64()
			if got := impl.Distance(a, b); got != want || got != impl.Distance(b, a) {
				t.Errorf("Distance(%v, %v) = %d, want %d", a, b, got, want)
			}
		}
	}
	for _, p := range badPoints {
		expect(t, "Distance from and to a bad point", []int64{impl.Distance(p, point(9, 9)), impl.Distance(point(9, 9), p)}, "[0 0]")
	}
}

// Each distance is rounded down, so two of them may together be up to one metre less than a third one.
func TestPromise4TrianglesOfDistances(t *testing.T) {
	list := append(places(40), point(1, 1), point(2, 2), point(3, 3))
	for _, a := range list {
		for _, b := range list {
			for _, c := range list {
				if impl.Distance(a, c) > impl.Distance(a, b)+impl.Distance(b, c)+1 {
					t.Errorf("the way from %v to %v is longer than over %v", a, c, b)
				}
			}
		}
	}
}

func TestPromise4SinesAndCosines(t *testing.T) {
	for d := int64(-800); d <= 800; d++ {
		sine, cosine := math.Sincos(float64(d) * math.Pi / 180)
		expect(t, "Sine", impl.Sine(d), int64(math.Round(1000000*sine)))
		expect(t, "Cosine", impl.Cosine(d), int64(math.Round(1000000*cosine)))
	}
	for _, d := range []int64{math.MinInt64, math.MinInt64 + 1, math.MinInt64 + 89, math.MinInt64 + 90, math.MaxInt64 - 90, math.MaxInt64 - 89, math.MaxInt64 - 1, math.MaxInt64} {
		same := new(big.Int).Mod(big.NewInt(d), big.NewInt(360)).Int64()
		expect(t, "Sine and Cosine of a great direction", []int64{impl.Sine(d), impl.Cosine(d)}, []int64{impl.Sine(same), impl.Cosine(same)})
	}
	expect(t, "Sine of the greatest number", impl.Sine(math.MaxInt64), 121869)
	expect(t, "Cosine of the greatest number", impl.Cosine(math.MaxInt64), 992546)
}

// reach is what the bearing makes greatest.
func reach(a, b impl.Point, d int64) int64 {
	return (b.X-a.X)*impl.Sine(d) + (b.Y-a.Y)*impl.Cosine(d)
}

// slowBearing tries all directions.
func slowBearing(a, b impl.Point) int64 {
	best := int64(0)
	for d := int64(1); d < 360; d++ {
		if reach(a, b, d) > reach(a, b, best) {
			best = d
		}
	}
	return best
}

func expectBearing(t *testing.T, a, b impl.Point) {
	t.Helper()
	if got, want := impl.Bearing(a, b), slowBearing(a, b); got != want {
		t.Errorf("Bearing(%v, %v) = %d, want %d", a, b, got, want)
	}
}

func TestPromise4Bearings(t *testing.T) {
	expect(t, "the document's example", impl.Bearing(point(0, 0), point(3000, 4000)), 37)
	for _, c := range []struct{ x, y, want int64 }{
		{0, 0, 0}, {0, 1, 0}, {1, 0, 90}, {0, -1, 180}, {-1, 0, 270}, {1, 1, 45}, {1, -1, 135}, {-1, -1, 225}, {-1, 1, 315},
		{0, 90000, 0}, {90000, 0, 90}, {0, -90000, 180}, {-90000, 0, 270}, {-1, 100, 359}, {1, 100, 1}, {-1, 90000, 0}, {1, 90000, 0},
		{90000, 1, 90}, {90000, -1, 90}, {1, -90000, 180}, {-1, -90000, 180}, {-90000, -1, 270}, {-90000, 1, 270},
	} {
		expect(t, "Bearing", impl.Bearing(point(100000, 100000), point(100000+c.x, 100000+c.y)), c.want)
	}
	for x := int64(-15); x <= 15; x++ {
		for y := int64(-15); y <= 15; y++ {
			expectBearing(t, point(15, 15), point(15+x, 15+y))
		}
	}
	list := places(70)
	for _, a := range list {
		for _, b := range list {
			expectBearing(t, a, b)
		}
	}
	for _, p := range badPoints {
		expect(t, "Bearing from and to a bad point", []int64{impl.Bearing(p, point(9, 0)), impl.Bearing(point(9, 0), p)}, "[0 0]")
	}
}

// Between each direction and the next one lies a way that reaches equally far in both; the least one counts, which is 0 for 359 and 0.
func TestPromise4BearingsBetweenTwoDirections(t *testing.T) {
	middle := point(100000, 100000)
	for d := int64(0); d < 360; d++ {
		x, y := impl.Cosine(d)-impl.Cosine(d+1), impl.Sine(d+1)-impl.Sine(d)
		to := point(middle.X+x, middle.Y+y)
		if reach(middle, to, d) != reach(middle, to, d+1) {
			t.Fatalf("the way %d, %d does not lie between %d and the next direction", x, y, d)
		}
		expect(t, "Bearing between two directions", impl.Bearing(middle, to), d%359)
		for _, step := range []impl.Point{{X: 1}, {X: -1}, {Y: 1}, {Y: -1}} {
			expectBearing(t, middle, point(to.X+step.X, to.Y+step.Y))
		}
	}
	expect(t, "Bearing at the end of the circle", impl.Bearing(point(38, 0), point(0, 4363)), 0)
	expect(t, "Bearing before the end of the circle", impl.Bearing(point(39, 0), point(0, 4363)), 359)
	expect(t, "Bearing behind the beginning of the circle", impl.Bearing(point(0, 0), point(38, 4363)), 0)
}

func TestPromise4Turns(t *testing.T) {
	for _, c := range []struct{ a, b, want int64 }{
		{350, 10, 20}, {10, 350, 20}, {0, 180, 180}, {180, 0, 180}, {90, -90, 180}, {5, 725, 0}, {0, 181, 179}, {359, 0, 1}, {0, 360, 0}, {-1, 1, 2}, {0, 0, 0},
		{math.MaxInt64, 7, 0}, {math.MinInt64, 352, 0}, {math.MaxInt64, math.MinInt64, 15}, {math.MinInt64, math.MaxInt64, 15}, {math.MinInt64, math.MinInt64, 0},
	} {
		expect(t, "Turn", impl.Turn(c.a, c.b), c.want)
	}
	for a := int64(-370); a <= 370; a += 7 {
		for b := int64(-370); b <= 370; b++ {
			turn := impl.Turn(a, b)
			there, back := (a+turn-b)%360 == 0, (a-turn-b)%360 == 0
			if turn < 0 || turn > 180 || !there && !back || turn != impl.Turn(b, a) {
				t.Errorf("Turn(%d, %d) = %d", a, b, turn)
			}
		}
	}
}

func TestPromise4Wedges(t *testing.T) {
	at, p := point(1000, 1000), point(4000, 5000) // the bearing is 37
	for _, c := range []struct {
		azimuth, width int64
		want           bool
	}{
		{37, 0, true}, {36, 0, false}, {36, 1, false}, {36, 2, true}, {30, 14, true}, {30, 13, false}, {44, 14, true}, {44, 13, false}, {397, 0, true}, {-323, 0, true},
		{217, 360, true}, {217, 359, false}, {218, 358, true}, {357, 80, true}, {357, 79, false}, {math.MaxInt64, 60, true}, {math.MaxInt64, 59, false},
		{37, -1, false}, {37, 361, false}, {37, math.MinInt64, false}, {37, math.MaxInt64, false},
	} {
		expect(t, "InWedge", impl.InWedge(at, c.azimuth, c.width, p), c.want)
	}
	for _, azimuth := range []int64{0, 37, 180, math.MinInt64, math.MaxInt64} {
		expect(t, "InWedge at the place itself", impl.InWedge(at, azimuth, 0, at), true)
		expect(t, "InWedge at the place itself with a bad width", impl.InWedge(at, azimuth, 361, at), false)
		for _, q := range places(60) {
			expect(t, "InWedge of the whole circle", impl.InWedge(at, azimuth, 360, q), true)
		}
	}
	for _, bad := range badPoints {
		expect(t, "InWedge with bad points", []bool{impl.InWedge(bad, 0, 360, p), impl.InWedge(at, 0, 360, bad), impl.InWedge(bad, 0, 360, bad)}, "[false false false]")
	}
}

func TestPromise4Moves(t *testing.T) {
	at := point(1000, 1000)
	for _, c := range []struct {
		a                 impl.Point
		bearing, distance int64
		want              impl.Point
		code              int64
	}{
		{at, 30, 1000, point(1500, 1866), impl.OK},
		{at, 225, 1000, point(293, 293), impl.OK},
		{at, 30, 1, point(1001, 1001), impl.OK}, // 0.5 is rounded up
		{at, 210, 1, point(999, 999), impl.OK},  // -0.5 is rounded down
		{at, 33, 0, at, impl.OK},
		{at, 180, 1000, point(1000, 0), impl.OK},
		{at, -180, 1000, point(1000, 0), impl.OK},
		{at, 270, 1000, point(0, 1000), impl.OK},
		{at, 810, 1000, point(2000, 1000), impl.OK},
		{at, 90, 199000, point(200000, 1000), impl.OK},
		{at, math.MaxInt64, 1000, point(1122, 1993), impl.OK},
		{at, math.MinInt64, 1000, point(861, 1990), impl.OK},
		{at, 90, 199001, point(0, 0), impl.ErrState},
		{at, 180, 1001, point(0, 0), impl.ErrState},
		{at, 270, 1001, point(0, 0), impl.ErrState},
		{at, 0, 400000, point(0, 0), impl.ErrState},
		{at, 180, 400001, point(0, 0), impl.ErrRange},
		{at, 0, -1, point(0, 0), impl.ErrRange},
		{at, 0, math.MinInt64, point(0, 0), impl.ErrRange},
		{at, 0, math.MaxInt64, point(0, 0), impl.ErrRange},
		{point(-1, 5), 90, 1, point(0, 0), impl.ErrInvalid},
		{point(5, 200001), 90, 400001, point(0, 0), impl.ErrInvalid},
	} {
		p, code := impl.Move(c.a, c.bearing, c.distance)
		if p != c.want || code != c.code {
			t.Errorf("Move(%v, %d, %d) = %v, %d", c.a, c.bearing, c.distance, p, code)
		}
	}
	corner, code := impl.Move(point(0, 0), 45, 282842)
	expect(t, "Move across the greatest square", []any{corner, code}, "[{200000 200000} 0]")
}

// A bearing differs by at most half a degree from the true one, which is less than 9 metres in 1000.
func TestPromise4MovingByBearingAndDistanceLeadsNear(t *testing.T) {
	moved := 0
	list := places(120)
	for _, a := range list {
		for _, b := range list {
			distance := impl.Distance(a, b)
			p, code := impl.Move(a, impl.Bearing(a, b), distance)
			if code == impl.ErrState {
				continue // the point is near to the edge and the one reached beyond it
			}
			moved++
			if code != impl.OK || 1000*impl.Distance(p, b) > 9*distance+2000 {
				t.Errorf("from %v the point %v is reached instead of %v", a, p, b)
			}
		}
	}
	if moved < len(list)*len(list)/2 {
		t.Errorf("only %d moves were possible", moved)
	}
}

func TestPromise4PointsAlong(t *testing.T) {
	a, b := point(0, 0), point(3000, 4000)
	for _, c := range []struct {
		a, b, want impl.Point
		i, n, code int64
	}{
		{a, b, point(1000, 1333), 1, 3, impl.OK},
		{a, b, a, 0, 3, impl.OK},
		{a, b, b, 3, 3, impl.OK},
		{a, b, b, 1, 1, impl.OK},
		{a, b, point(2997, 3996), 999, 1000, impl.OK},
		{b, a, point(2000, 2667), 1, 3, impl.OK},
		{b, b, b, 1, 2, impl.OK},
		{point(4, 1), point(1, 4), point(2, 3), 1, 2, impl.OK}, // from 4 down and from 1 up, halves go away from the first point
		{point(200000, 0), point(0, 200000), point(199800, 200), 1, 1000, impl.OK},
		{a, b, a, 4, 3, impl.ErrRange},
		{a, b, a, -1, 3, impl.ErrRange},
		{a, b, a, 0, 0, impl.ErrRange},
		{a, b, a, 0, -1, impl.ErrRange},
		{a, b, a, 5, 1001, impl.ErrRange},
		{a, b, a, math.MaxInt64, math.MaxInt64, impl.ErrRange},
		{a, b, a, math.MinInt64, math.MinInt64, impl.ErrRange},
		{a, point(-1, 0), a, 4, 3, impl.ErrInvalid},
		{point(0, 200001), b, a, 0, 0, impl.ErrInvalid},
	} {
		p, code := impl.Along(c.a, c.b, c.i, c.n)
		if p != c.want || code != c.code {
			t.Errorf("Along(%v, %v, %d, %d) = %v, %d", c.a, c.b, c.i, c.n, p, code)
		}
	}
	list := places(40)
	for i, p := range list {
		q := list[len(list)-1-i]
		for k := range int64(8) {
			got, code := impl.Along(p, q, k, 7)
			want := point(p.X+nearest((q.X-p.X)*k, 7), p.Y+nearest((q.Y-p.Y)*k, 7))
			if got != want || code != impl.OK {
				t.Errorf("Along(%v, %v, %d, 7) = %v, %d", p, q, k, got, code)
			}
		}
	}
}

func TestPromise4NearestPoints(t *testing.T) {
	bad := point(-1, 0)
	for _, c := range []struct {
		list        []impl.Point
		p           impl.Point
		index, code int64
	}{
		{[]impl.Point{point(3000, 4000), point(500, 500), point(0, 0)}, point(250, 250), 1, impl.OK}, // 353 twice
		{[]impl.Point{point(9, 9), point(5, 5), point(5, 5), point(6, 5)}, point(5, 5), 1, impl.OK},
		{[]impl.Point{point(1, 1), point(1, 0)}, point(0, 0), 0, impl.OK}, // 1.4 is rounded down to 1
		{[]impl.Point{point(200000, 200000)}, point(0, 0), 0, impl.OK},
		{nil, point(0, 0), 0, impl.ErrState},
		{[]impl.Point{}, point(0, 0), 0, impl.ErrState},
		{[]impl.Point{bad}, point(0, 0), 0, impl.ErrInvalid},
		{[]impl.Point{point(0, 0), bad}, point(0, 0), 0, impl.ErrInvalid},
		{[]impl.Point{point(5, 5), point(0, 0)}, bad, 0, impl.ErrInvalid},
		{nil, bad, 0, impl.ErrInvalid},
	} {
		index, code := impl.NearestOf(c.list, c.p)
		expect(t, "NearestOf", []int64{index, code}, []int64{c.index, c.code})
	}
	list := places(300)
	for _, p := range list {
		got, _ := impl.NearestOf(list[10:], p)
		for i, q := range list[10:] {
			nearer := impl.Distance(q, p) < impl.Distance(list[10+got], p)
			if nearer || int64(i) < got && impl.Distance(q, p) == impl.Distance(list[10+got], p) {
				t.Errorf("NearestOf %v is %d instead of %d", p, got, i)
			}
		}
	}
}

func TestPromise4PointTextsAreReadBack(t *testing.T) {
	for text, p := range map[string]impl.Point{"0,0": {}, "3000,4000": point(3000, 4000), "200000,200000": point(200000, 200000), "0,7": point(0, 7)} {
		expect(t, "PointText", impl.PointText(p), text)
	}
	for _, p := range places(300) {
		if back, ok := impl.ReadPoint(impl.PointText(p)); !ok || back != p {
			t.Errorf("ReadPoint(PointText(%v)) = %v, %v", p, back, ok)
		}
	}
	for _, p := range badPoints {
		expect(t, "PointText of a bad point", impl.PointText(p), "")
	}
}

func TestPromise4OtherPointTextsAreNotRead(t *testing.T) {
	for _, s := range []string{"", ",", "-", "1", "1,", ",1", "1,2,3", "1,2,", ",1,2", "1,,2", "1;2", "1 2", "1, 2", " 1,2", "1,2 ", "1,2\n", "01,2", "1,02", "+1,2", "1,+2", "-0,2", "1,-0", "-1,2", "1,-2",
		"200001,0", "0,200001", "a,b", "0x1,2", "1_0,2", "1.0,2", "9223372036854775808,0", "18446744073709551616,0", "٣,٤"} {
		if p, ok := impl.ReadPoint(s); ok || p != point(0, 0) {
			t.Errorf("ReadPoint(%q) = %v, %v", s, p, ok)
		}
	}
}
