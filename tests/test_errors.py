"""The interface of arrowfind/errors.py."""

import inspect
import unittest

from arrowfind import errors

REFUSALS = [
    "WrongSize", "NoWord", "Twice", "NoName", "Ring", "Unlike", "NoArrow",
    "Locked", "NoTie", "NoSuch", "NoNet", "NoText", "NoRow", "NoLabel",
]


class ClassesTest(unittest.TestCase):
    def test_any_refusal_is_a_value_error(self):
        self.assertEqual(errors.ArrowError.__bases__, (ValueError,))

    def test_each_stands_straight_under_arrow_error(self):
        for name in REFUSALS:
            self.assertEqual(getattr(errors, name).__bases__, (errors.ArrowError,), name)

    def test_fourteen_and_no_other(self):
        classes = [name for name, _ in inspect.getmembers(errors, inspect.isclass)]
        self.assertEqual(sorted(classes), sorted(REFUSALS + ["ArrowError"]))

    def test_plain_ones_can_be_raised_with_words_or_without(self):
        for name in REFUSALS:
            if name not in ("Ring", "NoNet"):
                for made in (getattr(errors, name)(), getattr(errors, name)("some words")):
                    with self.assertRaises(errors.ArrowError):
                        raise made


class ValuesTest(unittest.TestCase):
    def test_ring_has_its_ring(self):
        self.assertEqual(errors.Ring(["a", "b", "c"]).ring, ["a", "b", "c"])

    def test_no_net_has_its_place(self):
        place = ("middle", "a", "b", "c", (), ("b",))
        self.assertEqual(errors.NoNet(place).place, place)

    def test_ring_stays_when_the_list_is_emptied(self):
        ring = ["a", "b", "c"]
        error = errors.Ring(ring)
        words = str(error)
        ring.clear()
        self.assertEqual(error.ring, ["a", "b", "c"])
        self.assertEqual(str(error), words)

    def test_place_stays_when_its_lists_are_emptied(self):
        reasons = [("a", "b", "corner", ("c",))]
        ring = ["a", "b", "c"]
        error = errors.NoNet(("ring", reasons, ring))
        words = str(error)
        reasons.clear()
        ring.clear()
        self.assertEqual(error.place, ("ring", [("a", "b", "corner", ("c",))], ["a", "b", "c"]))
        self.assertEqual(str(error), words)

    def test_a_told_ring_changed_leaves_what_was_handed_in(self):
        ring = ["a", "b", "c"]
        errors.Ring(ring).ring.clear()
        self.assertEqual(ring, ["a", "b", "c"])


if __name__ == "__main__":
    unittest.main()
