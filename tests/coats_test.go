package tests

import (
	"math/rand"
	"testing"

	"loop.example/g01011/impl"
)

// Promise 11, second half: no thickness is better than the best one.

// exactCoat is the Loss of a coat by the definition.
func exactCoat(diameter, thickness, conductivity int64) int64 {
	return max(1, min(impl.MaxLoss, quotientOf(thickness, conductivity, 3, diameter+thickness)))
}

// exactCoatCost is the cost of a coat by the definition.
func exactCoatCost(p impl.Pipe, thickness, price int64) int64 {
	return p.Length * quotientOf(100, thickness*thickness+100, price)
}

// coatTask is what the best thickness of a coat depends on beside the pipe.
type coatTask struct{ conductivity, price, heat, years, warm, ground int64 }

// exactSum is the cost of a coat and of heat by the definition.
func (c coatTask) exactSum(p impl.Pipe, thickness int64) int64 {
	p.Loss = exactCoat(p.Diameter, thickness, c.conductivity)
	watts := max(0, exactLoss(p, c.warm, c.ground))
	return exactCoatCost(p, thickness, c.price) + quotientOf(100000, watts, 876, c.heat, c.years)
}

// exactBest goes through all thicknesses, and keeps the first one with the least sum.
func (c coatTask) exactBest(p impl.Pipe) [3]int64 {
	best := [3]int64{1, c.exactSum(p, 1), impl.OK}
	for thickness := int64(2); thickness <= impl.MaxThickness; thickness++ {
		if sum := c.exactSum(p, thickness); sum < best[1] {
			best[0], best[1] = thickness, sum
		}
	}
	return best
}

func (c coatTask) best(p impl.Pipe) [3]int64 {
	thickness, sum, code := impl.BestThickness(p, c.conductivity, c.price, c.heat, c.years, c.warm, c.ground)
	return [3]int64{thickness, sum, code}
}

func checkThickness(t *testing.T, p impl.Pipe, c coatTask, want [3]int64) {
	t.Helper()
	if got := c.best(p); got != want {
		t.Errorf("BestThickness(%+v, %+v) = %d, want %d", p, c, got, want)
	}
}

func randomTask(random *rand.Rand) coatTask {
	return coatTask{
		1 + random.Int63n(impl.MaxConductivity)>>random.Intn(10), random.Int63n(1001) >> random.Intn(11), random.Int63n(1001) >> random.Intn(11),
		1 + random.Int63n(100)>>random.Intn(7), randomTemperature(random), randomTemperature(random),
	}
}

func TestCoatLoss(t *testing.T) {
	cases := []struct{ diameter, thickness, conductivity, want int64 }{
		{100, 50, 30, 270}, {100, 100, 30, 180}, {100, 1, 1, 303}, {100, 2, 1, 153}, {100, 300, 1, 4},
		// The limits of all numbers; so little is lost at the least.
		{impl.MinWidth, impl.MaxThickness, 1, 3}, {impl.MinWidth, 1, 1, 63}, {impl.MaxWidth, impl.MaxThickness, 1, 13}, {impl.MaxWidth, 1, 1, 3003},
		{impl.MinWidth, impl.MaxThickness, impl.MaxConductivity, 3200}, {impl.MaxWidth, impl.MaxThickness, impl.MaxConductivity, impl.MaxLoss},
		// Just the greatest loss: 5000, and 4999.5 and 5000.4 when rounded.
		{200, 300, impl.MaxConductivity, impl.MaxLoss}, {997, 3, 5, impl.MaxLoss}, {99, 2, 33, impl.MaxLoss}, {205, 300, 990, impl.MaxLoss}, {921, 5, 9, impl.MaxLoss},
		// Just below it: 4999.47, 4999.43 and 4990.
		{237, 300, 931, 4999}, {31, 21, 673, 4999}, {199, 300, impl.MaxConductivity, 4990},
		// Cut to it: 5000.5, 5000.55, 5004 and far more; beside them 4995 and 4992, which are not.
		{430, 300, 685, impl.MaxLoss}, {255, 300, 901, impl.MaxLoss}, {400, 200, 556, impl.MaxLoss}, {400, 200, 555, 4995},
		{impl.MaxWidth, 1, impl.MaxConductivity, impl.MaxLoss}, {impl.MinWidth, 1, impl.MaxConductivity, impl.MaxLoss}, {208, 1, 8, impl.MaxLoss}, {207, 1, 8, 4992},
		// Halves are rounded up: 61.5, 52.5 and 37.5, 4.5 and 3.5; 31.33 and 33.67 are not halves.
		{39, 2, 1, 62}, {33, 2, 1, 53}, {23, 2, 1, 38}, {100, 200, 1, 5}, {50, 300, 1, 4}, {49, 300, 1, 3}, {85, 9, 1, 31}, {92, 9, 1, 34},
	}
	for _, c := range cases {
		got, code := impl.CoatLoss(c.diameter, c.thickness, c.conductivity)
		checkCode(t, got, code, c.want, impl.OK, "CoatLoss", c.diameter, c.thickness, c.conductivity)
	}
}

// Each thickness from the thinnest to the thickest coat is compared with the definition.
func TestCoatLossOfAllThicknesses(t *testing.T) {
	for _, diameter := range []int64{impl.MinWidth, impl.MinWidth + 1, 33, 100, 257, 999, impl.MaxWidth} {
		for _, conductivity := range []int64{1, 2, 7, 30, 333, 999, impl.MaxConductivity} {
			before := int64(impl.MaxLoss)
			for thickness := int64(1); thickness <= impl.MaxThickness; thickness++ {
				got, code := impl.CoatLoss(diameter, thickness, conductivity)
				checkCode(t, got, code, exactCoat(diameter, thickness, conductivity), impl.OK, "CoatLoss", diameter, thickness, conductivity)
				if got > before || got < 1 {
					t.Errorf("CoatLoss(%d, %d, %d) = %d, and %d for the coat before", diameter, thickness, conductivity, got, before)
				}
				before = got
			}
		}
	}
	random := rand.New(rand.NewSource(105))
	for range 2000 {
		p, c := randomPipe(random), randomTask(random)
		thickness := 1 + random.Int63n(impl.MaxThickness)
		p.Loss, _ = impl.CoatLoss(p.Diameter, thickness, c.conductivity)
		if p.Loss != exactCoat(p.Diameter, thickness, c.conductivity) || !impl.ValidPipe(p) {
			t.Errorf("CoatLoss(%d, %d, %d) = %d", p.Diameter, thickness, c.conductivity, p.Loss)
		}
	}
}

func TestCoatCost(t *testing.T) {
	cases := []struct{ length, thickness, price, want int64 }{
		{100, 10, 50, 10000}, {100, 10, 0, 0}, {1, 1, 1, 1}, {1, 1, 0, 0}, {7, 20, 100, 3500}, {impl.MaxLength, 1, 1000, 10100000},
		{1, impl.MaxThickness, 1, 901}, {1, impl.MaxThickness, 1000, 901000}, {impl.MaxLength, impl.MaxThickness, 1000, 9010000000}, {1, 299, 1, 895},
		// A metre is rounded before it is multiplied, and halves up: 2.5, 12.5, 1.25 and 1.49.
		{1, 5, 2, 3}, {7, 5, 2, 21}, {1, 5, 10, 13}, {1000, 5, 10, 13000}, {1000, 5, 1, 1000}, {10000, 7, 1, 10000}, {1, 5, 6, 8}, {10, 1, 50, 510}, {2, 7, 50, 150},
	}
	for _, c := range cases {
		p := pipeOf(c.length, 100, 5)
		got, code := impl.CoatCost(p, c.thickness, c.price)
		checkCode(t, got, code, c.want, impl.OK, "CoatCost", p, c.thickness, c.price)
	}
	random := rand.New(rand.NewSource(106))
	for thickness := int64(1); thickness <= impl.MaxThickness; thickness++ {
		for _, price := range []int64{0, 1, 999, 1000, random.Int63n(1001)} {
			p := randomPipe(random)
			got, code := impl.CoatCost(p, thickness, price)
			checkCode(t, got, code, exactCoatCost(p, thickness, price), impl.OK, "CoatCost", p, thickness, price)
		}
	}
}

func TestBestThickness(t *testing.T) {
	p := pipeOf(100, 100, 500)
	cases := []struct {
		p    impl.Pipe
		c    coatTask
		want [3]int64
	}{
		{p, coatTask{30, 0, 0, 1, 6000, 0}, [3]int64{1, 0, impl.OK}},
		// Heat costs nothing: without a price, without a difference, or because the ground is warmer, so that heat comes in.
		{p, coatTask{30, 50, 0, 100, 6000, 0}, [3]int64{1, 5100, impl.OK}}, {p, coatTask{30, 50, 1000, 100, 6000, 6000}, [3]int64{1, 5100, impl.OK}},
		{p, coatTask{30, 50, 1000, 100, 0, 6000}, [3]int64{1, 5100, impl.OK}}, {p, coatTask{30, 0, 1000, 100, impl.MinDegrees, impl.MaxDegrees}, [3]int64{1, 0, impl.OK}},
		// Coats cost nothing, so the first one of those with the least loss is the best.
		{p, coatTask{23, 0, 1000, 100, 6000, 0}, [3]int64{294, 483552, impl.OK}},
		{pipeOf(10000, impl.MinWidth, 0), coatTask{1, 0, 1000, 100, impl.MaxDegrees, impl.MinDegrees}, [3]int64{121, 6570000, impl.OK}},
		// The thickest coat is the best one, even if it costs something.
		{pipeOf(10000, 1000, 0), coatTask{100, 0, 1000, 100, impl.MaxDegrees, impl.MinDegrees}, [3]int64{300, 2847000000, impl.OK}},
		{pipeOf(10000, 1000, 0), coatTask{200, 1, 1000, 100, impl.MaxDegrees, impl.MinDegrees}, [3]int64{300, 5703010000, impl.OK}},
		// Thin coats lose the most, all of them as much, so the sum rises with the thickness before it falls: 3939720
		// for the thickest one against 3942970, and 3948730 against 3942980.
		{pipeOf(10, 1000, 0), coatTask{300, 1, 1000, 100, 9000, 0}, [3]int64{300, 3083770, impl.OK}},
		{pipeOf(10, 1000, 0), coatTask{300, 96, 1000, 100, 9000, 0}, [3]int64{300, 3939720, impl.OK}},
		{pipeOf(10, 1000, 0), coatTask{300, 97, 1000, 100, 9000, 0}, [3]int64{1, 3942980, impl.OK}},
		// All coats lose the most, so none is worth more than the thinnest one.
		{pipeOf(10, 1000, 0), coatTask{500, 1, 1000, 100, 9000, 0}, [3]int64{1, 3942010, impl.OK}},
		{pipeOf(10, 1000, 0), coatTask{impl.MaxConductivity, 0, 1000, 100, 9000, 0}, [3]int64{1, 3942000, impl.OK}},
		{
			pipeOf(impl.MaxLength, impl.MaxWidth, impl.MaxLoss),
			coatTask{impl.MaxConductivity, 1000, 1000, 100, impl.MaxDegrees, impl.MinDegrees}, [3]int64{1, 10960100000, impl.OK},
		},
		// 3300 for the coat, and 5440 for 4140 watts.
		{p, coatTask{30, 10, 5, 30, 6000, 0}, [3]int64{15, 8740, impl.OK}}, {p, coatTask{30, 1, 5, 1, 6000, 0}, [3]int64{12, 421, impl.OK}},
		// Several thicknesses have the same sum: 8 and 11, 18 and 21, 7 and 10 to 12.
		{pipeOf(3, 20, 0), coatTask{30, 2, 2, 10, 8000, 1000}, [3]int64{8, 21, impl.OK}}, {pipeOf(3, 20, 0), coatTask{30, 1, 10, 10, 8000, 1000}, [3]int64{18, 47, impl.OK}},
		{pipeOf(1, 20, 0), coatTask{30, 1, 2, 10, 8000, 1000}, [3]int64{7, 5, impl.OK}},
	}
	for _, c := range cases {
		checkThickness(t, c.p, c.c, c.want)
	}
}

func TestNoThicknessIsBetter(t *testing.T) {
	random := rand.New(rand.NewSource(107))
	found := make(map[string]int)
	for range 1500 {
		p, c := randomPipe(random), randomTask(random)
		got := c.best(p)
		checkThickness(t, p, c, c.exactBest(p))
		// The sums as the other functions tell them.
		for thickness := int64(1); thickness <= impl.MaxThickness; thickness++ {
			coated := p
			coated.Loss, _ = impl.CoatLoss(p.Diameter, thickness, c.conductivity)
			watts, _ := impl.RangeLoss(coated, c.warm, c.ground)
			cost, _ := impl.CoatCost(p, thickness, c.price)
			sum := cost + quotientOf(100000, max(0, watts), 876, c.heat, c.years)
			switch {
			case sum < got[1], sum == got[1] && thickness < got[0], thickness == got[0] && sum != got[1]:
				t.Errorf("BestThickness(%+v, %+v) = %d, but %d costs %d", p, c, got, thickness, sum)
			case sum == got[1] && thickness > got[0] && c.price > 0:
				found["the same sum"]++
			}
		}
		switch {
		case got[0] == impl.MaxThickness:
			found["the thickest"]++
		case got[0] > 1:
			found["between"]++
		}
	}
	for _, kind := range []string{"the same sum", "the thickest", "between"} {
		if found[kind] < 5 {
			t.Errorf("only %d tasks have %s coats", found[kind], kind)
		}
	}
}

// The Loss and the Id of a pipe make no difference to its best coat, nor where it leads.
func TestBestThicknessTakesLengthAndDiameterOnly(t *testing.T) {
	random := rand.New(rand.NewSource(108))
	for range 200 {
		p, c := randomPipe(random), randomTask(random)
		other := impl.Pipe{Id: "other", From: 3, To: 4, Length: p.Length, Diameter: p.Diameter, Loss: impl.MaxLoss - p.Loss}
		checkThickness(t, other, c, c.best(p))
		cost, _ := impl.CoatCost(p, 7, c.price)
		got, code := impl.CoatCost(other, 7, c.price)
		checkCode(t, got, code, cost, impl.OK, "CoatCost", other, 7, c.price)
	}
}
