package clips

import (
	"soundpost/fades"
	"soundpost/speed"
)

func speeded(data []int, a, b int) []int {
	x, _ := speed.Convert(data, a, b)
	return x
}

func faded(data []int, a, b int) []int {
	x, _ := fades.In(data, a)
	x, _ = fades.Out(x, b)
	return x
}
