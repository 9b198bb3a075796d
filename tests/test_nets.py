"""Points 2 and 4 to 7: words, nets made and refused, elders and heirs, names in turn."""

import itertools
import unittest

from arrowfind.errors import ArrowError, NoName, NoWord, Ring, Twice, WrongSize
from arrowfind.nets import (
    are_tied, elders_of, heirs_of, in_turn, is_word, names_above, names_below, net_made,
)
from tests.helper import (
    NAMES, Case, by_places, comes_round, every_choice, every_net, slow_above, slow_below,
    slow_tied, some_nets, thrown_net,
)

SMALL = "abcdefghijklmnopqrstuvwxyz"
SIGNS = [chr(number) for number in range(32, 127)] + ["\n", "\t"]
NINE = [letter for letter in "abcdefghi"]


class WordTest(Case):
    def test_lengths(self):
        self.assertIs(is_word(""), False)
        for length in range(1, 9):
            self.assertIs(is_word("abcdefgh"[:length]), True)
            self.assertIs(is_word("z" * length), True)
        for text in ("abcdefghi", "z" * 9, "a" * 16, "a" * 10000):
            self.assertIs(is_word(text), False)

    def test_each_sign_alone(self):
        for sign in SIGNS:
            self.assertIs(is_word(sign), sign in SMALL, repr(sign))

    def test_each_sign_beside_small_letters(self):
        for sign in SIGNS:
            for text in ("a" + sign, sign + "z", "m" + sign + "n", "abcdefg" + sign):
                self.assertIs(is_word(text), sign in SMALL, repr(text))

    def test_great_letters_figures_blanks(self):
        for text in ("A", "Rain", "raiN", "1", "a1", " ", " a", "a ", "a b", "\t", "a\t", "\n", "a\n", "\na"):
            self.assertIs(is_word(text), False, repr(text))


class MadeTest(Case):
    def test_one_name(self):
        self.assertEqual(net_made(["a"], []), (("a",), ()))

    def test_arrows_go_by_places_and_not_by_the_alphabet(self):
        made = net_made(["c", "a", "b"], [("a", "b"), ("c", "b"), ("c", "a")])
        self.assertEqual(made, (("c", "a", "b"), (("c", "a"), ("c", "b"), ("a", "b"))))

    def test_every_small_net_from_arrows_in_every_order(self):
        for size in (1, 2, 3):
            for names, arrows in every_net(size):
                for order in itertools.permutations(arrows):
                    self.assertEqual(net_made(list(names), list(order)), (names, arrows))

    def test_every_net_of_four_names(self):
        for names, arrows in every_net(4):
            self.assertEqual(net_made(list(names), list(reversed(arrows))), (names, arrows))

    def test_larger_nets(self):
        for size in (5, 6, 7, 8):
            for seed in range(30):
                names, arrows = thrown_net(seed, size, seed % 11)
                self.assertEqual(net_made(names, arrows), (tuple(names), by_places(names, arrows)))

    def test_eight_names_with_all_arrows_there_can_be(self):
        arrows = list(itertools.combinations(reversed(NAMES), 2))
        made = net_made(NAMES, arrows)
        self.assertEqual(made, (tuple(NAMES), by_places(NAMES, arrows)))
        self.assertEqual(len(made[1]), 28)

    def test_tuples_all_through(self):
        for size in (1, 4, 8):
            names, arrows = net = net_made(*thrown_net(3, size, 9))
            self.assertIs(type(net), tuple)
            self.assertIs(type(names), tuple)
            self.assertIs(type(arrows), tuple)
            for arrow in arrows:
                self.assertIs(type(arrow), tuple)

    def test_what_is_handed_in_stays(self):
        for seed in range(10):
            names, arrows = thrown_net(seed, 6, 5)
            kept = list(names), list(arrows)
            net_made(names, arrows)
            self.assertEqual((names, arrows), kept)

    def test_lists_emptied_behind_the_call_change_nothing(self):
        names, arrows = ["b", "a"], [("a", "b")]
        net = net_made(names, arrows)
        names.clear()
        arrows.clear()
        self.assertEqual(net, (("b", "a"), (("a", "b"),)))
        self.assertEqual(in_turn(net), ["a", "b"])

    def test_refused_lists_stay_too(self):
        names, arrows = ["a", "b", "c"], [("b", "c"), ("c", "a"), ("a", "b")]
        self.refused(Ring, net_made, names, arrows)
        self.assertEqual(names, ["a", "b", "c"])
        self.assertEqual(arrows, [("b", "c"), ("c", "a"), ("a", "b")])


class RefusedTest(Case):
    def test_wrong_size(self):
        self.refused(WrongSize, net_made, [], [])
        self.refused(WrongSize, net_made, NINE, [])
        self.refused(WrongSize, net_made, NINE * 200, [])
        self.assertEqual(net_made(NINE[:8], [])[0], tuple(NINE[:8]))

    def test_no_word(self):
        for wrong in ("", "A", "a1", "a b", "a\n", "abcdefghi"):
            for place in range(3):
                names = ["a", "b"]
                names.insert(place, wrong)
                self.refused(NoWord, net_made, names, [])

    def test_name_twice(self):
        for names in (["a", "a"], ["a", "b", "a"], ["b", "a", "a"], ["a"] * 8):
            self.refused(Twice, net_made, names, [])

    def test_arrow_with_a_strange_name(self):
        for arrow in (("a", "x"), ("x", "a"), ("x", "y"), ("x", "x"), ("a", "")):
            self.refused(NoName, net_made, ["a", "b"], [arrow])
            self.refused(NoName, net_made, ["a", "b"], [("a", "b"), arrow])

    def test_arrow_from_a_name_to_itself(self):
        self.refused(Twice, net_made, ["a"], [("a", "a")])
        self.refused(Twice, net_made, ["a", "b"], [("a", "b"), ("b", "b")])

    def test_second_arrow(self):
        self.refused(Twice, net_made, ["a", "b"], [("a", "b"), ("a", "b")])
        self.refused(Twice, net_made, ["a", "b", "c"], [("b", "a"), ("a", "c"), ("b", "a")])

    def test_second_arrow_turned(self):
        self.refused(Twice, net_made, ["a", "b"], [("a", "b"), ("b", "a")])
        self.refused(Twice, net_made, ["a", "b", "c"], [("b", "a"), ("a", "c"), ("a", "b")])

    def test_size_goes_ahead_of_all(self):
        self.refused(WrongSize, net_made, [], [("a", "b")])
        self.refused(WrongSize, net_made, ["A"] + NINE[1:], [])
        self.refused(WrongSize, net_made, ["a"] * 9, [])
        self.refused(WrongSize, net_made, NINE, [("x", "a"), ("a", "a")])

    def test_names_go_name_by_name(self):
        self.refused(NoWord, net_made, ["A", "a", "a"], [])
        self.refused(NoWord, net_made, ["a", "A", "a"], [])
        self.refused(Twice, net_made, ["a", "a", "A"], [])
        self.refused(NoWord, net_made, ["A", "A"], [])

    def test_names_go_ahead_of_pairs(self):
        for arrows in ([("a", "x")], [("a", "a")], [("a", "b"), ("b", "c"), ("c", "a")]):
            self.refused(NoWord, net_made, ["a", "b", "c", "1"], arrows)
            self.refused(Twice, net_made, ["a", "b", "c", "c"], [("x", "a")] + arrows)

    def test_pairs_go_pair_by_pair(self):
        self.refused(NoName, net_made, ["a", "b"], [("a", "x"), ("a", "a")])
        self.refused(Twice, net_made, ["a", "b"], [("a", "a"), ("a", "x")])
        self.refused(Twice, net_made, ["a", "b"], [("a", "b"), ("b", "a"), ("x", "a")])
        self.refused(NoName, net_made, ["a", "b"], [("a", "b"), ("x", "a"), ("b", "a")])

    def test_pairs_go_ahead_of_rings(self):
        ring = [("a", "b"), ("b", "c"), ("c", "a")]
        self.refused(NoName, net_made, ["a", "b", "c"], ring + [("c", "x")])
        self.refused(Twice, net_made, ["a", "b", "c"], ring + [("a", "c")])
        self.refused(Twice, net_made, ["a", "b", "c"], ring + [("b", "b")])

    def test_each_is_none_of_the_others(self):
        asked = {
            WrongSize: ([], []),
            NoWord: (["A"], []),
            Twice: (["a", "a"], []),
            NoName: (["a"], [("a", "b")]),
            Ring: (["a", "b", "c"], [("a", "b"), ("b", "c"), ("c", "a")]),
        }
        for due, arguments in asked.items():
            error = self.refused(due, net_made, *arguments)
            self.assertIsInstance(error, ArrowError)
            for other in asked:
                self.assertIs(isinstance(error, other), other is due)


class RingTest(Case):
    def check_ring(self, names, arrows):
        ring = self.refused(Ring, net_made, names, arrows).ring
        self.assertIs(type(ring), list)
        self.assertGreaterEqual(len(ring), 3)
        self.assertEqual(len(set(ring)), len(ring))
        for arrow in zip(ring, ring[1:] + ring[:1]):
            self.assertIn(arrow, arrows)

    def test_just_where_arrows_come_round(self):
        for size in (3, 4):
            names = NAMES[:size]
            for arrows in every_choice(names):
                if comes_round(names, arrows):
                    self.check_ring(names, arrows)
                else:
                    net_made(names, arrows)

    def test_one_ring_of_each_length_in_every_turning(self):
        for length in range(3, 9):
            for start in range(length):
                row = NAMES[start:length] + NAMES[:start]
                arrows = list(zip(row, row[1:] + row[:1]))
                self.check_ring(NAMES[:length], arrows)
                self.check_ring(NAMES, arrows)

    def test_names_above_and_below_a_ring_are_not_in_it(self):
        ring = [("c", "d"), ("d", "e"), ("e", "c")]
        ways = [("a", "b"), ("b", "c"), ("e", "f"), ("f", "g")]
        self.check_ring(list("abcdefg"), ways + ring)
        self.check_ring(list("gfedcba"), ring + ways)

    def test_two_rings(self):
        arrows = [("a", "b"), ("b", "c"), ("c", "a"), ("c", "d"), ("d", "e"), ("e", "f"), ("f", "d")]
        self.check_ring(list("abcdef"), arrows)
        self.check_ring(list("fedcba"), arrows)

    def test_an_arrow_that_closes_a_ring_in_a_larger_net(self):
        for seed in range(40):
            names, arrows = thrown_net(seed, 8, 5)
            net = net_made(names, arrows)
            for low, high in itertools.permutations(names, 2):
                if not slow_tied(net, low, high) and high in slow_above(net, low):
                    self.check_ring(names, [(low, high)] + arrows)


class EldersTest(Case):
    def test_elders_and_heirs(self):
        for net in some_nets():
            names, arrows = net
            for name in names:
                elders = tuple(each for each in names if (each, name) in arrows)
                heirs = tuple(each for each in names if (name, each) in arrows)
                self.assertEqual(elders_of(net, name), elders)
                self.assertEqual(heirs_of(net, name), heirs)

    def test_above_and_below(self):
        for net in some_nets():
            for name in net[0]:
                self.assertEqual(names_above(net, name), slow_above(net, name))
                self.assertEqual(names_below(net, name), slow_below(net, name))

    def test_order_is_the_names_and_not_the_alphabet(self):
        net = net_made(["d", "c", "b", "a"], [("a", "b"), ("c", "b"), ("d", "b")])
        self.assertEqual(elders_of(net, "b"), ("d", "c", "a"))
        self.assertEqual(names_above(net, "b"), ["d", "c", "b", "a"])
        net = net_made(["d", "c", "b", "a"], [("a", "b"), ("b", "c"), ("a", "d")])
        self.assertEqual(heirs_of(net, "a"), ("d", "b"))
        self.assertEqual(names_below(net, "a"), ["d", "c", "b", "a"])

    def test_a_name_alone(self):
        net = net_made(["a", "b"], [])
        self.assertEqual(elders_of(net, "a"), ())
        self.assertEqual(heirs_of(net, "a"), ())
        self.assertEqual(names_above(net, "a"), ["a"])
        self.assertEqual(names_below(net, "a"), ["a"])

    def test_tied_either_way_round(self):
        for net in some_nets():
            for one in net[0]:
                for other in net[0]:
                    self.assertIs(are_tied(net, one, other), slow_tied(net, one, other))
                self.assertIs(are_tied(net, one, one), False)

    def test_told_lists_emptied_change_no_later_answer(self):
        net = net_made(["c", "a", "b"], [("a", "b"), ("b", "c")])
        for _ in range(2):
            for tell, told in (
                (lambda: names_above(net, "c"), ["c", "a", "b"]),
                (lambda: names_below(net, "b"), ["c", "b"]),
                (lambda: in_turn(net), ["a", "b", "c"]),
            ):
                answer = tell()
                self.assertEqual(answer, told)
                answer.clear()
        self.assertEqual(net, (("c", "a", "b"), (("a", "b"), ("b", "c"))))

    def test_strange_names(self):
        net = net_made(["a", "b"], [("a", "b")])
        for strange in ("c", "A", "", "ab", "a "):
            for function in (elders_of, heirs_of, names_above, names_below):
                self.refused(NoName, function, net, strange)
            self.refused(NoName, are_tied, net, strange, "a")
            self.refused(NoName, are_tied, net, "a", strange)
            self.refused(NoName, are_tied, net, strange, strange)

    def test_answers_hang_on_the_net_asked_alone(self):
        first = net_made(["a", "b", "c"], [("a", "b"), ("b", "c")])
        second = net_made(["a", "b", "c"], [("c", "b"), ("b", "a")])
        for _ in range(2):
            self.assertEqual(names_above(first, "a"), ["a"])
            self.assertEqual(names_above(second, "a"), ["a", "b", "c"])
            self.assertEqual(in_turn(first), ["a", "b", "c"])
            self.assertEqual(in_turn(second), ["c", "b", "a"])


class InTurnTest(Case):
    def test_names_order_against_arrows_order(self):
        self.assertEqual(in_turn(net_made(list("abcd"), [("d", "c"), ("c", "b"), ("b", "a")])), list("dcba"))
        self.assertEqual(in_turn(net_made(list("abcd"), [("d", "a")])), list("bcda"))
        self.assertEqual(in_turn(net_made(list("abcde"), [("c", "a"), ("e", "b"), ("a", "d")])), list("cadeb"))
        self.assertEqual(in_turn(net_made(["b", "a"], [])), ["b", "a"])
        self.assertEqual(in_turn(net_made(["a"], [])), ["a"])

    def test_first_one_ready_again_and_again(self):
        # Of all orders with elders ahead, it is the one that comes first by the names' places.
        for net in some_nets():
            names, arrows = net
            first = next(
                list(order)
                for order in itertools.permutations(names)
                if all(order.index(tail) < order.index(head) for tail, head in arrows)
            )
            self.assertEqual(in_turn(net), first)


if __name__ == "__main__":
    unittest.main()
