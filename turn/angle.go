package turn

import (
	"landfall/api"
	"landfall/fix"
	"landfall/root"
)

const (
	half  = 1 << 31 // half a turn
	more  = 20      // how many bits more angles are looked for with
	start = 683706022956409
	steps = 31
)

// angle is the angle whose tangent is 1 by 2 to the power of k.
func angle(k int) int64 {
	table := [steps]int64{
		536870912, 316933406, 167458907, 85004756, 42667331, 21354465, 10679838, 5340245,
		2670163, 1335087, 667544, 333772, 166886, 83443, 41722, 20861,
		10430, 5215, 2608, 1304, 652, 326, 163, 81,
		41, 20, 10, 5, 3, 1, 1,
	}
	return table[k]
}

// spin turns x and y a little: by the k-th angle of the table, on if way is 1, back if it is -1.
func spin(x, y int64, k int, way int64) (int64, int64) {
	by := int64(1) << k
	return x - way*(y/by), y + way*(x/by)
}

// Atan is the angle at which x and y point.
func Atan(y, x int32) int32 {
	if x == 0 && y == 0 {
		return 0
	}
	right, up := max(int64(x), -int64(x)), int64(y)
	for right < one && up < one && up > -one {
		right, up = 2*right, 2*up
	}
	right, up = right<<more, up<<more
	a := int64(0)
	for k := range steps {
		switch {
		case up > 0:
			right, up = spin(right, up, k, -1)
			a += angle(k)
		case up < 0:
			right, up = spin(right, up, k, 1)
			a -= angle(k)
		}
	}
	if x < 0 {
		a = half - a
	}
	return int32(a)
}

// Circle is where an angle points.
func Circle(a int32) (cos, sin int32) {
	z := int64(a)
	back := z < -one || z > one
	if back {
		z = int64(int32(half - z))
	}
	x, y := int64(start), int64(0)
	for k := range steps {
		way := int64(1)
		if z < 0 {
			way = -1
		}
		x, y = spin(x, y, k, way)
		z -= way * angle(k)
	}
	c, s := fix.Round(x, more), fix.Round(y, more)
	if back {
		c = -c
	}
	return within(c), within(s)
}

// within is n, brought back to one or less one, if it is beyond.
func within(n int64) int32 { return int32(max(-one, min(n, one))) }

// Angles is how far q is turned to its side, up, and around.
func Angles(q api.Quat) (roll, pitch, yaw int32) {
	var c counter
	up := Up(q)
	roll = Atan(up.Y, up.Z)
	pitch = Atan(c.cut(-int64(up.X)), c.cut(int64(root.Length(up.Y, up.Z))))
	y := c.cut(2 * (product(q.X, q.Y) + product(q.W, q.Z)))
	x := c.cut(product(q.W, q.W) + product(q.X, q.X) - product(q.Y, q.Y) - product(q.Z, q.Z))
	return roll, pitch, Atan(y, x)
}
